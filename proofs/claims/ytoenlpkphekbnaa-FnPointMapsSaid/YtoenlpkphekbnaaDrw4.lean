/-
  Matrices, drawn (own work; region 6 is written by tools/mkdrw4.py from XDrw4.in).
-/
import Derived.Test.YtoenlpkphekbnaaDrw3
namespace Go.Proofs.Ytoenlpkphekbnaa
open Go.ChangeShapes Go.WideShapes Go.ChangeAt Go.RowKit
set_option linter.unusedVariables false
set_option maxRecDepth 100000
set_option linter.unusedSimpArgs false
set_option maxRecDepth 100000

theorem grown_drew (w : World) (row : Option Nat) : w.grownBy w.drew row := ⟨rfl, rfl, rfl, Nat.le_refl _, fun _ _ _ => rfl⟩
theorem sr_drew {w : World} {s : Nat} {a : Option Addr} {n cap : Nat} (h : Sr w s a n cap) : Sr w.drew s a n cap := h.kept (grown_drew w none) (fun k e => by cases e)
set_option maxHeartbeats 20000000 in
theorem l01AnyMatrix_any (s : Nat) (a : Option Addr) (n cap : Nat) (w : World) (h : Sr w s a n cap) :
    Calls Try.prog 71 #[.pointer (some ⟨s, 0, none⟩)] w fun e w' => ∃ p q r t : Int, e = .returned (.agg #[.int .i64 p, .int .i64 q, .int .i64 r, .int .i64 t]) ∧ Drew s a n cap w w' := by
  have HS := Lib.hid h
  have hsl := h.lt
  clear h
  go_enter Try.func71, Try.ntmps71
  go_wp2_with fail
  go_at_call 109
  refine (l01DrawUnit_any s a n cap _ (sr_alloc HS.out _)).mono ?_
  rintro e w1 ⟨p, q, r, t, rfl, hg1, hs1⟩
  have HR1 := Lib.hid ((four_new w (.int .i64 0) (.int .i64 0) (.int .i64 0) (.int .i64 0) 26).kept hg1 (fun e => by cases e; omega))
  have G1 := Lib.hid ((World.grownBy_alloc w _ _).trans hg1)
  have hsl1 := hs1.lt
  have hwl : w.heap.size < w1.heap.size := HR1.out.2.2.2.2.2.2.2.2
  clear hg1
  go_wp2_with fail
  go_at_call 87
  refine (l01Next_any s a n cap _ _ (sr_alloc hs1 _)).mono ?_
  rintro e w2 ⟨v, rfl, -, hv, hg2, hs2⟩
  obtain ⟨b1, b2⟩ := hv (by omega)
  have HR2 := Lib.hid ((HR1.out.kept (World.grownBy_alloc w1 (.cells #[.int .i64 p, .int .i64 q, .int .i64 r, .int .i64 t] 26) none) (by simp)).kept hg2 (fun e => by cases e; omega))
  have HM2 := Lib.hid ((four_new w1 (.int .i64 p) (.int .i64 q) (.int .i64 r) (.int .i64 t) 26).kept hg2 (fun e => by simp at e; omega))
  have G2 := Lib.hid ((G1.out.trans (World.grownBy_alloc w1 _ _)).trans hg2)
  clear hg2 hv hs1
  by_cases hz : v = 0
  · subst hz
    go_wp2_with fail
    go_at_call 90
    refine (l01Size_any s a n cap _ hs2).mono ?_
    rintro e w3 ⟨m, hm1, hm2, rfl, hg3, hs3⟩
    have HR3 := Lib.hid (HR2.out.kept hg3 (fun e => by simp at e; omega))
    have HM3 := Lib.hid (HM2.out.kept hg3 (fun e => by simp at e; omega))
    have G3 := Lib.hid (G2.out.trans hg3)
    clear hg3 hs2
    go_wp2_with fail
    go_at_call 108
    refine (l01DrawPoint_any s a n cap m _ hs3 hm1 hm2).mono ?_
    rintro e w4 ⟨x, y, rfl, -, -, -, -, hg4, hs4⟩
    have HR4 := Lib.hid (HR3.out.kept hg4 (fun e => by simp at e; omega))
    have HM4 := Lib.hid (HM3.out.kept hg4 (fun e => by simp at e; omega))
    have G4 := Lib.hid (G3.out.trans hg4)
    clear hg4 hs3 hm1 hm2
    go_wp2_with fail
    go_at_call 90
    refine (l01Size_any s a n cap _ hs4).mono ?_
    rintro e w5 ⟨m, hm1, hm2, rfl, hg5, hs5⟩
    have HR5 := Lib.hid (HR4.out.kept hg5 (fun e => by simp at e; omega))
    have HM5 := Lib.hid (HM4.out.kept hg5 (fun e => by simp at e; omega))
    have G5 := Lib.hid (G4.out.trans hg5)
    clear hg5 hs4
    go_wp2_with fail
    go_at_call 108
    refine (l01DrawPoint_any s a n cap m _ hs5 hm1 hm2).mono ?_
    rintro e w6 ⟨x', y', rfl, -, -, -, -, hg6, hs6⟩
    have HR6 := Lib.hid (HR5.out.kept hg6 (fun e => by simp at e; omega))
    have HM6 := Lib.hid (HM5.out.kept hg6 (fun e => by simp at e; omega))
    have G6 := Lib.hid (G5.out.trans hg6)
    clear hg6 hs5 hm1 hm2
    obtain ⟨c0, c1, c2, c3, f0, f1, f2, f3, hb⟩ := HM6.out
    have hs7' := sr_alloc (sr_alloc (sr_set (sr_set (sr_set (sr_set hs6 w1.heap.size 0 (.int .i64 x) hsl1) w1.heap.size 1 (.int .i64 y) hsl1) w1.heap.size 2 (.int .i64 x') hsl1) w1.heap.size 3 (.int .i64 y') hsl1) (.cells #[.int .i64 x, .int .i64 y] 30)) (.cells #[.int .i64 x', .int .i64 y'] 30)
    have HM7' := Lib.hid (Four.kept (Four.kept (HM6.out.set (.int .i64 x) (.int .i64 y) (.int .i64 x') (.int .i64 y')) (World.grownBy_alloc _ (.cells #[.int .i64 x, .int .i64 y] 30) none) (by simp)) (World.grownBy_alloc _ (.cells #[.int .i64 x', .int .i64 y'] 30) none) (by simp))
    have HR7' := Lib.hid (Four.kept (Four.kept ((((HR6.out.other (show w.heap.size ≠ w1.heap.size by omega) 0 (.int .i64 x)).other (show w.heap.size ≠ w1.heap.size by omega) 1 (.int .i64 y)).other (show w.heap.size ≠ w1.heap.size by omega) 2 (.int .i64 x')).other (show w.heap.size ≠ w1.heap.size by omega) 3 (.int .i64 y')) (World.grownBy_alloc _ (.cells #[.int .i64 x, .int .i64 y] 30) none) (by simp)) (World.grownBy_alloc _ (.cells #[.int .i64 x', .int .i64 y'] 30) none) (by simp))
    have G7' := Lib.hid (World.grownBy.trans (World.grownBy.trans (grown_setN (grown_setN (grown_setN (grown_setN G6.out (Nat.le_of_lt hwl) 0 (.int .i64 x)) (Nat.le_of_lt hwl) 1 (.int .i64 y)) (Nat.le_of_lt hwl) 2 (.int .i64 x')) (Nat.le_of_lt hwl) 3 (.int .i64 y')) (World.grownBy_alloc _ (.cells #[.int .i64 x, .int .i64 y] 30) _)) (World.grownBy_alloc _ (.cells #[.int .i64 x', .int .i64 y'] 30) _))
    have HS7 := Lib.hid hs7'
    clear hs7' hs6
    go_wp2_with fail
    go_at_call 87
    refine (l01Next_any s a n cap _ _ HS7.out).mono ?_
    rintro e w7 ⟨v7, rfl, -, hv7, hg7, hs7⟩
    have HR7 := Lib.hid (HR7'.out.kept hg7 (fun e => by simp at e; omega))
    have HM7 := Lib.hid (HM7'.out.kept hg7 (fun e => by simp at e; omega))
    have G7 := Lib.hid (G7'.out.trans hg7)
    clear hg7 hv7 HS7 HR7' HM7' G7' c0 c1 c2 c3 f0 f1 f2 f3 hb
    obtain ⟨c0, c1, c2, c3, f0, f1, f2, f3, hb⟩ := HM7.out
    obtain ⟨d0, d1, d2, d3, g0, g1, g2, g3, hd⟩ := HR7.out
    by_cases hz7 : v7 = 0
    · subst hz7
      go_wp2_with fail
      refine wp_region_held_drew (S := fun _ => True) (by kernel_rfl) trivial (fun hHeld => ?_)
      have hSd := sr_drew hs7
      have HRd := Lib.hid (Four.kept HR7.out (grown_drew w7 none) (by simp))
      have HMd := Lib.hid (Four.kept HM7.out (grown_drew w7 none) (by simp))
      have HGd := Lib.hid (World.grownBy.trans G7.out (grown_drew w7 _))
      (refine wpAnyH_take (i := 0) (v := ?_) rfl (by kernel_rfl) (by kernel_rfl) (by kernel_rfl) (fun _ _ _ h => h) (Or.inl ⟨rfl, ?_⟩) (by assumption) ?_; rotate_left; focus (intro w hSw; (try dsimp only at hSw); go_simp; try (with_reducible rfl))); (try simp only [Act.put, List.getElem_toArray, List.getElem_cons_succ, List.getElem_cons_zero, List.setIfInBounds_toArray, List.set_cons_zero, List.set_cons_succ])
      (refine wpAnyH_take (i := 2) (v := ?_) rfl (by kernel_rfl) (by kernel_rfl) (by kernel_rfl) (fun _ _ _ h => h) (Or.inl ⟨rfl, ?_⟩) (by assumption) ?_; rotate_left; focus (intro w hSw; (try dsimp only at hSw); go_simp; try (with_reducible rfl))); (try simp only [Act.put, List.getElem_toArray, List.getElem_cons_succ, List.getElem_cons_zero, List.setIfInBounds_toArray, List.set_cons_zero, List.set_cons_succ])
      (refine wpAnyH_take (i := 4) (v := ?_) rfl (by kernel_rfl) (by kernel_rfl) (by kernel_rfl) (fun _ _ _ h => h) (Or.inl ⟨rfl, ?_⟩) (by assumption) ?_; rotate_left; focus (intro w hSw; (try dsimp only at hSw); go_simp; try (with_reducible rfl))); (try simp only [Act.put, List.getElem_toArray, List.getElem_cons_succ, List.getElem_cons_zero, List.setIfInBounds_toArray, List.set_cons_zero, List.set_cons_succ])
      refine wpAnyH_ready (rs := [1, 5]) (by kernel_rfl) (by simp) ?_; refine AllReadyH.cons rfl (fun K hK => ?_) (AllReadyH.cons rfl (fun K hK => ?_) AllReadyH.nil)
      · go_simp
        go_at_call 87
        refine (l01Next_any s a n cap _ _ hSd).mono ?_
        rintro e y11 ⟨z11, rfl, -, hv11, hg11, hS11⟩
        obtain ⟨l11, u11⟩ := hv11 (by omega)
        have HR11 := Lib.hid (Four.kept HRd.out hg11 (fun e => by simp at e; omega))
        have HM11 := Lib.hid (Four.kept HMd.out hg11 (fun e => by simp at e; omega))
        have HG11 := Lib.hid (World.grownBy.trans HGd.out hg11)
        clear hg11 hv11
        refine hK.out _ _ trivial (fun hHeld2 => ?_)
        clear hHeld; rename _ => hHeld; clear hK K
        (try simp only [Act.put, List.getElem_toArray, List.getElem_cons_succ, List.getElem_cons_zero, List.setIfInBounds_toArray, List.set_cons_zero, List.set_cons_succ])
        rcases (show z11 = 0 ∨ z11 = 1 by omega) with rfl | rfl
        · (refine wpAnyH_take (i := 7) (v := ?_) rfl (by kernel_rfl) (by kernel_rfl) (by kernel_rfl) (fun _ _ _ h => h) (Or.inl ⟨rfl, ?_⟩) (by assumption) ?_; rotate_left; focus (intro w hSw; (try dsimp only at hSw); go_simp; try (with_reducible rfl))); (try simp only [Act.put, List.getElem_toArray, List.getElem_cons_succ, List.getElem_cons_zero, List.setIfInBounds_toArray, List.set_cons_zero, List.set_cons_succ])
          refine wpAnyH_ready (rs := [3, 5]) (by kernel_rfl) (by simp) ?_; refine AllReadyH.cons rfl (fun K hK => ?_) (AllReadyH.cons rfl (fun K hK => ?_) AllReadyH.nil)
          · go_simp
            go_at_call 87
            refine (l01Next_any s a n cap _ _ hS11).mono ?_
            rintro e y12 ⟨z12, rfl, -, hv12, hg12, hS12⟩
            obtain ⟨l12, u12⟩ := hv12 (by omega)
            have HR12 := Lib.hid (Four.kept HR11.out hg12 (fun e => by simp at e; omega))
            have HM12 := Lib.hid (Four.kept HM11.out hg12 (fun e => by simp at e; omega))
            have HG12 := Lib.hid (World.grownBy.trans HG11.out hg12)
            clear hg12 hv12
            refine hK.out _ _ trivial (fun hHeld2 => ?_)
            clear hHeld; rename _ => hHeld; clear hK K
            (try simp only [Act.put, List.getElem_toArray, List.getElem_cons_succ, List.getElem_cons_zero, List.setIfInBounds_toArray, List.set_cons_zero, List.set_cons_succ])
            rcases (show z12 = 0 ∨ z12 = 1 by omega) with rfl | rfl
            · refine wpAnyH_ready (rs := [5]) (by kernel_rfl) (by simp) ?_; refine AllReadyH.cons rfl (fun K hK => ?_) AllReadyH.nil
              go_simp
              have hS13 := sr_alloc hS12 (.cells #[.int .i64 1000001, .int .i64 (-1099511627776)] 2)
              have HR13 := Lib.hid (Four.kept HR12.out (World.grownBy_alloc _ (.cells #[.int .i64 1000001, .int .i64 (-1099511627776)] 2) none) (by simp))
              have HM13 := Lib.hid (Four.kept HM12.out (World.grownBy_alloc _ (.cells #[.int .i64 1000001, .int .i64 (-1099511627776)] 2) none) (by simp))
              have HG13 := Lib.hid (World.grownBy.trans HG12.out (World.grownBy_alloc _ (.cells #[.int .i64 1000001, .int .i64 (-1099511627776)] 2) _))
              have HL13 := Lib.hid (fun j hj => row_new y12 [1000001, -1099511627776] 2 j hj)
              have hq13 : y12.heap.size < (y12.alloc (.cells #[.int .i64 1000001, .int .i64 (-1099511627776)] 2)).heap.size := by simp
              have hqs13 : s < y12.heap.size := hS12.lt
              refine hK.out _ _ trivial (fun hHeld2 => ?_)
              clear hHeld; rename _ => hHeld; clear hK K
              (try simp only [Act.put, List.getElem_toArray, List.getElem_cons_succ, List.getElem_cons_zero, List.setIfInBounds_toArray, List.set_cons_zero, List.set_cons_succ])
              refine wpAnyH_ready (rs := [6]) (by kernel_rfl) (by simp) ?_; refine AllReadyH.cons rfl (fun K hK => ?_) AllReadyH.nil
              go_simp
              go_at_call 100
              refine (l01Pick_any s (y12.heap.size) 2 a n cap [1000001, -1099511627776] _ hS13 hq13 (by omega) (by simp) (by simp) HL13.out).mono ?_
              rintro e y14 ⟨z14, -, rfl, hg14, hS14⟩
              have HR14 := Lib.hid (Four.kept HR13.out hg14 (fun e => by simp at e; omega))
              have HM14 := Lib.hid (Four.kept HM13.out hg14 (fun e => by simp at e; omega))
              have HG14 := Lib.hid (World.grownBy.trans HG13.out hg14)
              clear hg14
              refine hK.out _ _ trivial (fun hHeld2 => ?_)
              clear hHeld; rename _ => hHeld; clear hK K
              (try simp only [Act.put, List.getElem_toArray, List.getElem_cons_succ, List.getElem_cons_zero, List.setIfInBounds_toArray, List.set_cons_zero, List.set_cons_succ])
              (refine wpAnyH_take (i := 8) (v := ?_) rfl (by kernel_rfl) (by kernel_rfl) (by kernel_rfl) (fun _ _ _ h => h) (Or.inl ⟨rfl, ?_⟩) (by assumption) ?_; rotate_left; focus (intro w hSw; (try dsimp only at hSw); go_simp; try (with_reducible rfl))); (try simp only [Act.put, List.getElem_toArray, List.getElem_cons_succ, List.getElem_cons_zero, List.setIfInBounds_toArray, List.set_cons_zero, List.set_cons_succ])
              obtain ⟨c0, c1, c2, c3, f0, f1, f2, f3, hb⟩ := HM14.out
              obtain ⟨d0, d1, d2, d3, g0, g1, g2, g3, hd⟩ := HR14.out
              refine wpAnyH_ready (rs := [9]) (by kernel_rfl) (by simp) ?_; refine AllReadyH.cons rfl (fun K hK => ?_) AllReadyH.nil
              go_simp
              refine hK.out _ _ trivial (fun hHeld2 => ?_)
              clear hHeld; rename _ => hHeld; clear hK K
              (try simp only [Act.put, List.getElem_toArray, List.getElem_cons_succ, List.getElem_cons_zero, List.setIfInBounds_toArray, List.set_cons_zero, List.set_cons_succ])
              refine wpAnyH_done (by kernel_rfl) ?_ _
              go_wp2
              refine bodyPost_ret (v := .agg #[.int .i64 z14, .int .i64 y, .int .i64 x', .int .i64 y']) (by simp (maxDischargeDepth := 8) [results, Try.results71, go_sem, *]) rfl ?_
              refine ⟨z14, y, x', y', rfl, ?_, ?_⟩
              · exact grown_setN (grown_setN (grown_setN (grown_setN (grown_setN HG14.out (Nat.le_of_lt hwl) _ _) (Nat.le_refl _) _ _) (Nat.le_refl _) _ _) (Nat.le_refl _) _ _) (Nat.le_refl _) _ _
              · exact sr_set (sr_set (sr_set (sr_set (sr_set hS14 _ _ _ hsl1) _ _ _ hsl) _ _ _ hsl) _ _ _ hsl) _ _ _ hsl
            · refine wpAnyH_ready (rs := [5]) (by kernel_rfl) (by simp) ?_; refine AllReadyH.cons rfl (fun K hK => ?_) AllReadyH.nil
              go_simp
              have hS13 := sr_alloc hS12 (.cells #[.int .i64 1000001, .int .i64 (-1099511627776)] 2)
              have HR13 := Lib.hid (Four.kept HR12.out (World.grownBy_alloc _ (.cells #[.int .i64 1000001, .int .i64 (-1099511627776)] 2) none) (by simp))
              have HM13 := Lib.hid (Four.kept HM12.out (World.grownBy_alloc _ (.cells #[.int .i64 1000001, .int .i64 (-1099511627776)] 2) none) (by simp))
              have HG13 := Lib.hid (World.grownBy.trans HG12.out (World.grownBy_alloc _ (.cells #[.int .i64 1000001, .int .i64 (-1099511627776)] 2) _))
              have HL13 := Lib.hid (fun j hj => row_new y12 [1000001, -1099511627776] 2 j hj)
              have hq13 : y12.heap.size < (y12.alloc (.cells #[.int .i64 1000001, .int .i64 (-1099511627776)] 2)).heap.size := by simp
              have hqs13 : s < y12.heap.size := hS12.lt
              refine hK.out _ _ trivial (fun hHeld2 => ?_)
              clear hHeld; rename _ => hHeld; clear hK K
              (try simp only [Act.put, List.getElem_toArray, List.getElem_cons_succ, List.getElem_cons_zero, List.setIfInBounds_toArray, List.set_cons_zero, List.set_cons_succ])
              refine wpAnyH_ready (rs := [6]) (by kernel_rfl) (by simp) ?_; refine AllReadyH.cons rfl (fun K hK => ?_) AllReadyH.nil
              go_simp
              go_at_call 100
              refine (l01Pick_any s (y12.heap.size) 2 a n cap [1000001, -1099511627776] _ hS13 hq13 (by omega) (by simp) (by simp) HL13.out).mono ?_
              rintro e y14 ⟨z14, -, rfl, hg14, hS14⟩
              have HR14 := Lib.hid (Four.kept HR13.out hg14 (fun e => by simp at e; omega))
              have HM14 := Lib.hid (Four.kept HM13.out hg14 (fun e => by simp at e; omega))
              have HG14 := Lib.hid (World.grownBy.trans HG13.out hg14)
              clear hg14
              refine hK.out _ _ trivial (fun hHeld2 => ?_)
              clear hHeld; rename _ => hHeld; clear hK K
              (try simp only [Act.put, List.getElem_toArray, List.getElem_cons_succ, List.getElem_cons_zero, List.setIfInBounds_toArray, List.set_cons_zero, List.set_cons_succ])
              (refine wpAnyH_take (i := 8) (v := ?_) rfl (by kernel_rfl) (by kernel_rfl) (by kernel_rfl) (fun _ _ _ h => h) (Or.inl ⟨rfl, ?_⟩) (by assumption) ?_; rotate_left; focus (intro w hSw; (try dsimp only at hSw); go_simp; try (with_reducible rfl))); (try simp only [Act.put, List.getElem_toArray, List.getElem_cons_succ, List.getElem_cons_zero, List.setIfInBounds_toArray, List.set_cons_zero, List.set_cons_succ])
              obtain ⟨c0, c1, c2, c3, f0, f1, f2, f3, hb⟩ := HM14.out
              obtain ⟨d0, d1, d2, d3, g0, g1, g2, g3, hd⟩ := HR14.out
              refine wpAnyH_ready (rs := [9]) (by kernel_rfl) (by simp) ?_; refine AllReadyH.cons rfl (fun K hK => ?_) AllReadyH.nil
              go_simp
              refine hK.out _ _ trivial (fun hHeld2 => ?_)
              clear hHeld; rename _ => hHeld; clear hK K
              (try simp only [Act.put, List.getElem_toArray, List.getElem_cons_succ, List.getElem_cons_zero, List.setIfInBounds_toArray, List.set_cons_zero, List.set_cons_succ])
              refine wpAnyH_done (by kernel_rfl) ?_ _
              go_wp2
              refine bodyPost_ret (v := .agg #[.int .i64 x, .int .i64 z14, .int .i64 x', .int .i64 y']) (by simp (maxDischargeDepth := 8) [results, Try.results71, go_sem, *]) rfl ?_
              refine ⟨x, z14, x', y', rfl, ?_, ?_⟩
              · exact grown_setN (grown_setN (grown_setN (grown_setN (grown_setN HG14.out (Nat.le_of_lt hwl) _ _) (Nat.le_refl _) _ _) (Nat.le_refl _) _ _) (Nat.le_refl _) _ _) (Nat.le_refl _) _ _
              · exact sr_set (sr_set (sr_set (sr_set (sr_set hS14 _ _ _ hsl1) _ _ _ hsl) _ _ _ hsl) _ _ _ hsl) _ _ _ hsl
          · go_simp
            have hS12 := sr_alloc hS11 (.cells #[.int .i64 1000001, .int .i64 (-1099511627776)] 2)
            have HR12 := Lib.hid (Four.kept HR11.out (World.grownBy_alloc _ (.cells #[.int .i64 1000001, .int .i64 (-1099511627776)] 2) none) (by simp))
            have HM12 := Lib.hid (Four.kept HM11.out (World.grownBy_alloc _ (.cells #[.int .i64 1000001, .int .i64 (-1099511627776)] 2) none) (by simp))
            have HG12 := Lib.hid (World.grownBy.trans HG11.out (World.grownBy_alloc _ (.cells #[.int .i64 1000001, .int .i64 (-1099511627776)] 2) _))
            have HL12 := Lib.hid (fun j hj => row_new y11 [1000001, -1099511627776] 2 j hj)
            have hq12 : y11.heap.size < (y11.alloc (.cells #[.int .i64 1000001, .int .i64 (-1099511627776)] 2)).heap.size := by simp
            have hqs12 : s < y11.heap.size := hS11.lt
            refine hK.out _ _ trivial (fun hHeld2 => ?_)
            clear hHeld; rename _ => hHeld; clear hK K
            (try simp only [Act.put, List.getElem_toArray, List.getElem_cons_succ, List.getElem_cons_zero, List.setIfInBounds_toArray, List.set_cons_zero, List.set_cons_succ])
            refine wpAnyH_ready (rs := [3]) (by kernel_rfl) (by simp) ?_; refine AllReadyH.cons rfl (fun K hK => ?_) AllReadyH.nil
            go_simp
            go_at_call 87
            refine (l01Next_any s a n cap _ _ hS12).mono ?_
            rintro e y13 ⟨z13, rfl, -, hv13, hg13, hS13⟩
            obtain ⟨l13, u13⟩ := hv13 (by omega)
            have HR13 := Lib.hid (Four.kept HR12.out hg13 (fun e => by simp at e; omega))
            have HM13 := Lib.hid (Four.kept HM12.out hg13 (fun e => by simp at e; omega))
            have HG13 := Lib.hid (World.grownBy.trans HG12.out hg13)
            have HL13 := Lib.hid (fun j hj => ((kept_cell hg13 hq12 (fun e => by simp at e; omega) j).1).trans (HL12.out j hj))
            have hq13 : y11.heap.size < y13.heap.size := Nat.lt_of_lt_of_le hq12 hg13.size
            clear hg13 hv13
            refine hK.out _ _ trivial (fun hHeld2 => ?_)
            clear hHeld; rename _ => hHeld; clear hK K
            (try simp only [Act.put, List.getElem_toArray, List.getElem_cons_succ, List.getElem_cons_zero, List.setIfInBounds_toArray, List.set_cons_zero, List.set_cons_succ])
            rcases (show z13 = 0 ∨ z13 = 1 by omega) with rfl | rfl
            · refine wpAnyH_ready (rs := [6]) (by kernel_rfl) (by simp) ?_; refine AllReadyH.cons rfl (fun K hK => ?_) AllReadyH.nil
              go_simp
              go_at_call 100
              refine (l01Pick_any s (y11.heap.size) 2 a n cap [1000001, -1099511627776] _ hS13 hq13 (by omega) (by simp) (by simp) HL13.out).mono ?_
              rintro e y14 ⟨z14, -, rfl, hg14, hS14⟩
              have HR14 := Lib.hid (Four.kept HR13.out hg14 (fun e => by simp at e; omega))
              have HM14 := Lib.hid (Four.kept HM13.out hg14 (fun e => by simp at e; omega))
              have HG14 := Lib.hid (World.grownBy.trans HG13.out hg14)
              clear hg14
              refine hK.out _ _ trivial (fun hHeld2 => ?_)
              clear hHeld; rename _ => hHeld; clear hK K
              (try simp only [Act.put, List.getElem_toArray, List.getElem_cons_succ, List.getElem_cons_zero, List.setIfInBounds_toArray, List.set_cons_zero, List.set_cons_succ])
              (refine wpAnyH_take (i := 8) (v := ?_) rfl (by kernel_rfl) (by kernel_rfl) (by kernel_rfl) (fun _ _ _ h => h) (Or.inl ⟨rfl, ?_⟩) (by assumption) ?_; rotate_left; focus (intro w hSw; (try dsimp only at hSw); go_simp; try (with_reducible rfl))); (try simp only [Act.put, List.getElem_toArray, List.getElem_cons_succ, List.getElem_cons_zero, List.setIfInBounds_toArray, List.set_cons_zero, List.set_cons_succ])
              obtain ⟨c0, c1, c2, c3, f0, f1, f2, f3, hb⟩ := HM14.out
              obtain ⟨d0, d1, d2, d3, g0, g1, g2, g3, hd⟩ := HR14.out
              refine wpAnyH_ready (rs := [9]) (by kernel_rfl) (by simp) ?_; refine AllReadyH.cons rfl (fun K hK => ?_) AllReadyH.nil
              go_simp
              refine hK.out _ _ trivial (fun hHeld2 => ?_)
              clear hHeld; rename _ => hHeld; clear hK K
              (try simp only [Act.put, List.getElem_toArray, List.getElem_cons_succ, List.getElem_cons_zero, List.setIfInBounds_toArray, List.set_cons_zero, List.set_cons_succ])
              refine wpAnyH_done (by kernel_rfl) ?_ _
              go_wp2
              refine bodyPost_ret (v := .agg #[.int .i64 z14, .int .i64 y, .int .i64 x', .int .i64 y']) (by simp (maxDischargeDepth := 8) [results, Try.results71, go_sem, *]) rfl ?_
              refine ⟨z14, y, x', y', rfl, ?_, ?_⟩
              · exact grown_setN (grown_setN (grown_setN (grown_setN (grown_setN HG14.out (Nat.le_of_lt hwl) _ _) (Nat.le_refl _) _ _) (Nat.le_refl _) _ _) (Nat.le_refl _) _ _) (Nat.le_refl _) _ _
              · exact sr_set (sr_set (sr_set (sr_set (sr_set hS14 _ _ _ hsl1) _ _ _ hsl) _ _ _ hsl) _ _ _ hsl) _ _ _ hsl
            · refine wpAnyH_ready (rs := [6]) (by kernel_rfl) (by simp) ?_; refine AllReadyH.cons rfl (fun K hK => ?_) AllReadyH.nil
              go_simp
              go_at_call 100
              refine (l01Pick_any s (y11.heap.size) 2 a n cap [1000001, -1099511627776] _ hS13 hq13 (by omega) (by simp) (by simp) HL13.out).mono ?_
              rintro e y14 ⟨z14, -, rfl, hg14, hS14⟩
              have HR14 := Lib.hid (Four.kept HR13.out hg14 (fun e => by simp at e; omega))
              have HM14 := Lib.hid (Four.kept HM13.out hg14 (fun e => by simp at e; omega))
              have HG14 := Lib.hid (World.grownBy.trans HG13.out hg14)
              clear hg14
              refine hK.out _ _ trivial (fun hHeld2 => ?_)
              clear hHeld; rename _ => hHeld; clear hK K
              (try simp only [Act.put, List.getElem_toArray, List.getElem_cons_succ, List.getElem_cons_zero, List.setIfInBounds_toArray, List.set_cons_zero, List.set_cons_succ])
              (refine wpAnyH_take (i := 8) (v := ?_) rfl (by kernel_rfl) (by kernel_rfl) (by kernel_rfl) (fun _ _ _ h => h) (Or.inl ⟨rfl, ?_⟩) (by assumption) ?_; rotate_left; focus (intro w hSw; (try dsimp only at hSw); go_simp; try (with_reducible rfl))); (try simp only [Act.put, List.getElem_toArray, List.getElem_cons_succ, List.getElem_cons_zero, List.setIfInBounds_toArray, List.set_cons_zero, List.set_cons_succ])
              obtain ⟨c0, c1, c2, c3, f0, f1, f2, f3, hb⟩ := HM14.out
              obtain ⟨d0, d1, d2, d3, g0, g1, g2, g3, hd⟩ := HR14.out
              refine wpAnyH_ready (rs := [9]) (by kernel_rfl) (by simp) ?_; refine AllReadyH.cons rfl (fun K hK => ?_) AllReadyH.nil
              go_simp
              refine hK.out _ _ trivial (fun hHeld2 => ?_)
              clear hHeld; rename _ => hHeld; clear hK K
              (try simp only [Act.put, List.getElem_toArray, List.getElem_cons_succ, List.getElem_cons_zero, List.setIfInBounds_toArray, List.set_cons_zero, List.set_cons_succ])
              refine wpAnyH_done (by kernel_rfl) ?_ _
              go_wp2
              refine bodyPost_ret (v := .agg #[.int .i64 x, .int .i64 z14, .int .i64 x', .int .i64 y']) (by simp (maxDischargeDepth := 8) [results, Try.results71, go_sem, *]) rfl ?_
              refine ⟨x, z14, x', y', rfl, ?_, ?_⟩
              · exact grown_setN (grown_setN (grown_setN (grown_setN (grown_setN HG14.out (Nat.le_of_lt hwl) _ _) (Nat.le_refl _) _ _) (Nat.le_refl _) _ _) (Nat.le_refl _) _ _) (Nat.le_refl _) _ _
              · exact sr_set (sr_set (sr_set (sr_set (sr_set hS14 _ _ _ hsl1) _ _ _ hsl) _ _ _ hsl) _ _ _ hsl) _ _ _ hsl
        · (refine wpAnyH_take (i := 7) (v := ?_) rfl (by kernel_rfl) (by kernel_rfl) (by kernel_rfl) (fun _ _ _ h => h) (Or.inl ⟨rfl, ?_⟩) (by assumption) ?_; rotate_left; focus (intro w hSw; (try dsimp only at hSw); go_simp; try (with_reducible rfl))); (try simp only [Act.put, List.getElem_toArray, List.getElem_cons_succ, List.getElem_cons_zero, List.setIfInBounds_toArray, List.set_cons_zero, List.set_cons_succ])
          refine wpAnyH_ready (rs := [3, 5]) (by kernel_rfl) (by simp) ?_; refine AllReadyH.cons rfl (fun K hK => ?_) (AllReadyH.cons rfl (fun K hK => ?_) AllReadyH.nil)
          · go_simp
            go_at_call 87
            refine (l01Next_any s a n cap _ _ hS11).mono ?_
            rintro e y12 ⟨z12, rfl, -, hv12, hg12, hS12⟩
            obtain ⟨l12, u12⟩ := hv12 (by omega)
            have HR12 := Lib.hid (Four.kept HR11.out hg12 (fun e => by simp at e; omega))
            have HM12 := Lib.hid (Four.kept HM11.out hg12 (fun e => by simp at e; omega))
            have HG12 := Lib.hid (World.grownBy.trans HG11.out hg12)
            clear hg12 hv12
            refine hK.out _ _ trivial (fun hHeld2 => ?_)
            clear hHeld; rename _ => hHeld; clear hK K
            (try simp only [Act.put, List.getElem_toArray, List.getElem_cons_succ, List.getElem_cons_zero, List.setIfInBounds_toArray, List.set_cons_zero, List.set_cons_succ])
            rcases (show z12 = 0 ∨ z12 = 1 by omega) with rfl | rfl
            · refine wpAnyH_ready (rs := [5]) (by kernel_rfl) (by simp) ?_; refine AllReadyH.cons rfl (fun K hK => ?_) AllReadyH.nil
              go_simp
              have hS13 := sr_alloc hS12 (.cells #[.int .i64 1000001, .int .i64 (-1099511627776)] 2)
              have HR13 := Lib.hid (Four.kept HR12.out (World.grownBy_alloc _ (.cells #[.int .i64 1000001, .int .i64 (-1099511627776)] 2) none) (by simp))
              have HM13 := Lib.hid (Four.kept HM12.out (World.grownBy_alloc _ (.cells #[.int .i64 1000001, .int .i64 (-1099511627776)] 2) none) (by simp))
              have HG13 := Lib.hid (World.grownBy.trans HG12.out (World.grownBy_alloc _ (.cells #[.int .i64 1000001, .int .i64 (-1099511627776)] 2) _))
              have HL13 := Lib.hid (fun j hj => row_new y12 [1000001, -1099511627776] 2 j hj)
              have hq13 : y12.heap.size < (y12.alloc (.cells #[.int .i64 1000001, .int .i64 (-1099511627776)] 2)).heap.size := by simp
              have hqs13 : s < y12.heap.size := hS12.lt
              refine hK.out _ _ trivial (fun hHeld2 => ?_)
              clear hHeld; rename _ => hHeld; clear hK K
              (try simp only [Act.put, List.getElem_toArray, List.getElem_cons_succ, List.getElem_cons_zero, List.setIfInBounds_toArray, List.set_cons_zero, List.set_cons_succ])
              refine wpAnyH_ready (rs := [6]) (by kernel_rfl) (by simp) ?_; refine AllReadyH.cons rfl (fun K hK => ?_) AllReadyH.nil
              go_simp
              go_at_call 100
              refine (l01Pick_any s (y12.heap.size) 2 a n cap [1000001, -1099511627776] _ hS13 hq13 (by omega) (by simp) (by simp) HL13.out).mono ?_
              rintro e y14 ⟨z14, -, rfl, hg14, hS14⟩
              have HR14 := Lib.hid (Four.kept HR13.out hg14 (fun e => by simp at e; omega))
              have HM14 := Lib.hid (Four.kept HM13.out hg14 (fun e => by simp at e; omega))
              have HG14 := Lib.hid (World.grownBy.trans HG13.out hg14)
              clear hg14
              refine hK.out _ _ trivial (fun hHeld2 => ?_)
              clear hHeld; rename _ => hHeld; clear hK K
              (try simp only [Act.put, List.getElem_toArray, List.getElem_cons_succ, List.getElem_cons_zero, List.setIfInBounds_toArray, List.set_cons_zero, List.set_cons_succ])
              (refine wpAnyH_take (i := 8) (v := ?_) rfl (by kernel_rfl) (by kernel_rfl) (by kernel_rfl) (fun _ _ _ h => h) (Or.inl ⟨rfl, ?_⟩) (by assumption) ?_; rotate_left; focus (intro w hSw; (try dsimp only at hSw); go_simp; try (with_reducible rfl))); (try simp only [Act.put, List.getElem_toArray, List.getElem_cons_succ, List.getElem_cons_zero, List.setIfInBounds_toArray, List.set_cons_zero, List.set_cons_succ])
              obtain ⟨c0, c1, c2, c3, f0, f1, f2, f3, hb⟩ := HM14.out
              obtain ⟨d0, d1, d2, d3, g0, g1, g2, g3, hd⟩ := HR14.out
              refine wpAnyH_ready (rs := [9]) (by kernel_rfl) (by simp) ?_; refine AllReadyH.cons rfl (fun K hK => ?_) AllReadyH.nil
              go_simp
              refine hK.out _ _ trivial (fun hHeld2 => ?_)
              clear hHeld; rename _ => hHeld; clear hK K
              (try simp only [Act.put, List.getElem_toArray, List.getElem_cons_succ, List.getElem_cons_zero, List.setIfInBounds_toArray, List.set_cons_zero, List.set_cons_succ])
              refine wpAnyH_done (by kernel_rfl) ?_ _
              go_wp2
              refine bodyPost_ret (v := .agg #[.int .i64 x, .int .i64 y, .int .i64 z14, .int .i64 y']) (by simp (maxDischargeDepth := 8) [results, Try.results71, go_sem, *]) rfl ?_
              refine ⟨x, y, z14, y', rfl, ?_, ?_⟩
              · exact grown_setN (grown_setN (grown_setN (grown_setN (grown_setN HG14.out (Nat.le_of_lt hwl) _ _) (Nat.le_refl _) _ _) (Nat.le_refl _) _ _) (Nat.le_refl _) _ _) (Nat.le_refl _) _ _
              · exact sr_set (sr_set (sr_set (sr_set (sr_set hS14 _ _ _ hsl1) _ _ _ hsl) _ _ _ hsl) _ _ _ hsl) _ _ _ hsl
            · refine wpAnyH_ready (rs := [5]) (by kernel_rfl) (by simp) ?_; refine AllReadyH.cons rfl (fun K hK => ?_) AllReadyH.nil
              go_simp
              have hS13 := sr_alloc hS12 (.cells #[.int .i64 1000001, .int .i64 (-1099511627776)] 2)
              have HR13 := Lib.hid (Four.kept HR12.out (World.grownBy_alloc _ (.cells #[.int .i64 1000001, .int .i64 (-1099511627776)] 2) none) (by simp))
              have HM13 := Lib.hid (Four.kept HM12.out (World.grownBy_alloc _ (.cells #[.int .i64 1000001, .int .i64 (-1099511627776)] 2) none) (by simp))
              have HG13 := Lib.hid (World.grownBy.trans HG12.out (World.grownBy_alloc _ (.cells #[.int .i64 1000001, .int .i64 (-1099511627776)] 2) _))
              have HL13 := Lib.hid (fun j hj => row_new y12 [1000001, -1099511627776] 2 j hj)
              have hq13 : y12.heap.size < (y12.alloc (.cells #[.int .i64 1000001, .int .i64 (-1099511627776)] 2)).heap.size := by simp
              have hqs13 : s < y12.heap.size := hS12.lt
              refine hK.out _ _ trivial (fun hHeld2 => ?_)
              clear hHeld; rename _ => hHeld; clear hK K
              (try simp only [Act.put, List.getElem_toArray, List.getElem_cons_succ, List.getElem_cons_zero, List.setIfInBounds_toArray, List.set_cons_zero, List.set_cons_succ])
              refine wpAnyH_ready (rs := [6]) (by kernel_rfl) (by simp) ?_; refine AllReadyH.cons rfl (fun K hK => ?_) AllReadyH.nil
              go_simp
              go_at_call 100
              refine (l01Pick_any s (y12.heap.size) 2 a n cap [1000001, -1099511627776] _ hS13 hq13 (by omega) (by simp) (by simp) HL13.out).mono ?_
              rintro e y14 ⟨z14, -, rfl, hg14, hS14⟩
              have HR14 := Lib.hid (Four.kept HR13.out hg14 (fun e => by simp at e; omega))
              have HM14 := Lib.hid (Four.kept HM13.out hg14 (fun e => by simp at e; omega))
              have HG14 := Lib.hid (World.grownBy.trans HG13.out hg14)
              clear hg14
              refine hK.out _ _ trivial (fun hHeld2 => ?_)
              clear hHeld; rename _ => hHeld; clear hK K
              (try simp only [Act.put, List.getElem_toArray, List.getElem_cons_succ, List.getElem_cons_zero, List.setIfInBounds_toArray, List.set_cons_zero, List.set_cons_succ])
              (refine wpAnyH_take (i := 8) (v := ?_) rfl (by kernel_rfl) (by kernel_rfl) (by kernel_rfl) (fun _ _ _ h => h) (Or.inl ⟨rfl, ?_⟩) (by assumption) ?_; rotate_left; focus (intro w hSw; (try dsimp only at hSw); go_simp; try (with_reducible rfl))); (try simp only [Act.put, List.getElem_toArray, List.getElem_cons_succ, List.getElem_cons_zero, List.setIfInBounds_toArray, List.set_cons_zero, List.set_cons_succ])
              obtain ⟨c0, c1, c2, c3, f0, f1, f2, f3, hb⟩ := HM14.out
              obtain ⟨d0, d1, d2, d3, g0, g1, g2, g3, hd⟩ := HR14.out
              refine wpAnyH_ready (rs := [9]) (by kernel_rfl) (by simp) ?_; refine AllReadyH.cons rfl (fun K hK => ?_) AllReadyH.nil
              go_simp
              refine hK.out _ _ trivial (fun hHeld2 => ?_)
              clear hHeld; rename _ => hHeld; clear hK K
              (try simp only [Act.put, List.getElem_toArray, List.getElem_cons_succ, List.getElem_cons_zero, List.setIfInBounds_toArray, List.set_cons_zero, List.set_cons_succ])
              refine wpAnyH_done (by kernel_rfl) ?_ _
              go_wp2
              refine bodyPost_ret (v := .agg #[.int .i64 x, .int .i64 y, .int .i64 x', .int .i64 z14]) (by simp (maxDischargeDepth := 8) [results, Try.results71, go_sem, *]) rfl ?_
              refine ⟨x, y, x', z14, rfl, ?_, ?_⟩
              · exact grown_setN (grown_setN (grown_setN (grown_setN (grown_setN HG14.out (Nat.le_of_lt hwl) _ _) (Nat.le_refl _) _ _) (Nat.le_refl _) _ _) (Nat.le_refl _) _ _) (Nat.le_refl _) _ _
              · exact sr_set (sr_set (sr_set (sr_set (sr_set hS14 _ _ _ hsl1) _ _ _ hsl) _ _ _ hsl) _ _ _ hsl) _ _ _ hsl
          · go_simp
            have hS12 := sr_alloc hS11 (.cells #[.int .i64 1000001, .int .i64 (-1099511627776)] 2)
            have HR12 := Lib.hid (Four.kept HR11.out (World.grownBy_alloc _ (.cells #[.int .i64 1000001, .int .i64 (-1099511627776)] 2) none) (by simp))
            have HM12 := Lib.hid (Four.kept HM11.out (World.grownBy_alloc _ (.cells #[.int .i64 1000001, .int .i64 (-1099511627776)] 2) none) (by simp))
            have HG12 := Lib.hid (World.grownBy.trans HG11.out (World.grownBy_alloc _ (.cells #[.int .i64 1000001, .int .i64 (-1099511627776)] 2) _))
            have HL12 := Lib.hid (fun j hj => row_new y11 [1000001, -1099511627776] 2 j hj)
            have hq12 : y11.heap.size < (y11.alloc (.cells #[.int .i64 1000001, .int .i64 (-1099511627776)] 2)).heap.size := by simp
            have hqs12 : s < y11.heap.size := hS11.lt
            refine hK.out _ _ trivial (fun hHeld2 => ?_)
            clear hHeld; rename _ => hHeld; clear hK K
            (try simp only [Act.put, List.getElem_toArray, List.getElem_cons_succ, List.getElem_cons_zero, List.setIfInBounds_toArray, List.set_cons_zero, List.set_cons_succ])
            refine wpAnyH_ready (rs := [3]) (by kernel_rfl) (by simp) ?_; refine AllReadyH.cons rfl (fun K hK => ?_) AllReadyH.nil
            go_simp
            go_at_call 87
            refine (l01Next_any s a n cap _ _ hS12).mono ?_
            rintro e y13 ⟨z13, rfl, -, hv13, hg13, hS13⟩
            obtain ⟨l13, u13⟩ := hv13 (by omega)
            have HR13 := Lib.hid (Four.kept HR12.out hg13 (fun e => by simp at e; omega))
            have HM13 := Lib.hid (Four.kept HM12.out hg13 (fun e => by simp at e; omega))
            have HG13 := Lib.hid (World.grownBy.trans HG12.out hg13)
            have HL13 := Lib.hid (fun j hj => ((kept_cell hg13 hq12 (fun e => by simp at e; omega) j).1).trans (HL12.out j hj))
            have hq13 : y11.heap.size < y13.heap.size := Nat.lt_of_lt_of_le hq12 hg13.size
            clear hg13 hv13
            refine hK.out _ _ trivial (fun hHeld2 => ?_)
            clear hHeld; rename _ => hHeld; clear hK K
            (try simp only [Act.put, List.getElem_toArray, List.getElem_cons_succ, List.getElem_cons_zero, List.setIfInBounds_toArray, List.set_cons_zero, List.set_cons_succ])
            rcases (show z13 = 0 ∨ z13 = 1 by omega) with rfl | rfl
            · refine wpAnyH_ready (rs := [6]) (by kernel_rfl) (by simp) ?_; refine AllReadyH.cons rfl (fun K hK => ?_) AllReadyH.nil
              go_simp
              go_at_call 100
              refine (l01Pick_any s (y11.heap.size) 2 a n cap [1000001, -1099511627776] _ hS13 hq13 (by omega) (by simp) (by simp) HL13.out).mono ?_
              rintro e y14 ⟨z14, -, rfl, hg14, hS14⟩
              have HR14 := Lib.hid (Four.kept HR13.out hg14 (fun e => by simp at e; omega))
              have HM14 := Lib.hid (Four.kept HM13.out hg14 (fun e => by simp at e; omega))
              have HG14 := Lib.hid (World.grownBy.trans HG13.out hg14)
              clear hg14
              refine hK.out _ _ trivial (fun hHeld2 => ?_)
              clear hHeld; rename _ => hHeld; clear hK K
              (try simp only [Act.put, List.getElem_toArray, List.getElem_cons_succ, List.getElem_cons_zero, List.setIfInBounds_toArray, List.set_cons_zero, List.set_cons_succ])
              (refine wpAnyH_take (i := 8) (v := ?_) rfl (by kernel_rfl) (by kernel_rfl) (by kernel_rfl) (fun _ _ _ h => h) (Or.inl ⟨rfl, ?_⟩) (by assumption) ?_; rotate_left; focus (intro w hSw; (try dsimp only at hSw); go_simp; try (with_reducible rfl))); (try simp only [Act.put, List.getElem_toArray, List.getElem_cons_succ, List.getElem_cons_zero, List.setIfInBounds_toArray, List.set_cons_zero, List.set_cons_succ])
              obtain ⟨c0, c1, c2, c3, f0, f1, f2, f3, hb⟩ := HM14.out
              obtain ⟨d0, d1, d2, d3, g0, g1, g2, g3, hd⟩ := HR14.out
              refine wpAnyH_ready (rs := [9]) (by kernel_rfl) (by simp) ?_; refine AllReadyH.cons rfl (fun K hK => ?_) AllReadyH.nil
              go_simp
              refine hK.out _ _ trivial (fun hHeld2 => ?_)
              clear hHeld; rename _ => hHeld; clear hK K
              (try simp only [Act.put, List.getElem_toArray, List.getElem_cons_succ, List.getElem_cons_zero, List.setIfInBounds_toArray, List.set_cons_zero, List.set_cons_succ])
              refine wpAnyH_done (by kernel_rfl) ?_ _
              go_wp2
              refine bodyPost_ret (v := .agg #[.int .i64 x, .int .i64 y, .int .i64 z14, .int .i64 y']) (by simp (maxDischargeDepth := 8) [results, Try.results71, go_sem, *]) rfl ?_
              refine ⟨x, y, z14, y', rfl, ?_, ?_⟩
              · exact grown_setN (grown_setN (grown_setN (grown_setN (grown_setN HG14.out (Nat.le_of_lt hwl) _ _) (Nat.le_refl _) _ _) (Nat.le_refl _) _ _) (Nat.le_refl _) _ _) (Nat.le_refl _) _ _
              · exact sr_set (sr_set (sr_set (sr_set (sr_set hS14 _ _ _ hsl1) _ _ _ hsl) _ _ _ hsl) _ _ _ hsl) _ _ _ hsl
            · refine wpAnyH_ready (rs := [6]) (by kernel_rfl) (by simp) ?_; refine AllReadyH.cons rfl (fun K hK => ?_) AllReadyH.nil
              go_simp
              go_at_call 100
              refine (l01Pick_any s (y11.heap.size) 2 a n cap [1000001, -1099511627776] _ hS13 hq13 (by omega) (by simp) (by simp) HL13.out).mono ?_
              rintro e y14 ⟨z14, -, rfl, hg14, hS14⟩
              have HR14 := Lib.hid (Four.kept HR13.out hg14 (fun e => by simp at e; omega))
              have HM14 := Lib.hid (Four.kept HM13.out hg14 (fun e => by simp at e; omega))
              have HG14 := Lib.hid (World.grownBy.trans HG13.out hg14)
              clear hg14
              refine hK.out _ _ trivial (fun hHeld2 => ?_)
              clear hHeld; rename _ => hHeld; clear hK K
              (try simp only [Act.put, List.getElem_toArray, List.getElem_cons_succ, List.getElem_cons_zero, List.setIfInBounds_toArray, List.set_cons_zero, List.set_cons_succ])
              (refine wpAnyH_take (i := 8) (v := ?_) rfl (by kernel_rfl) (by kernel_rfl) (by kernel_rfl) (fun _ _ _ h => h) (Or.inl ⟨rfl, ?_⟩) (by assumption) ?_; rotate_left; focus (intro w hSw; (try dsimp only at hSw); go_simp; try (with_reducible rfl))); (try simp only [Act.put, List.getElem_toArray, List.getElem_cons_succ, List.getElem_cons_zero, List.setIfInBounds_toArray, List.set_cons_zero, List.set_cons_succ])
              obtain ⟨c0, c1, c2, c3, f0, f1, f2, f3, hb⟩ := HM14.out
              obtain ⟨d0, d1, d2, d3, g0, g1, g2, g3, hd⟩ := HR14.out
              refine wpAnyH_ready (rs := [9]) (by kernel_rfl) (by simp) ?_; refine AllReadyH.cons rfl (fun K hK => ?_) AllReadyH.nil
              go_simp
              refine hK.out _ _ trivial (fun hHeld2 => ?_)
              clear hHeld; rename _ => hHeld; clear hK K
              (try simp only [Act.put, List.getElem_toArray, List.getElem_cons_succ, List.getElem_cons_zero, List.setIfInBounds_toArray, List.set_cons_zero, List.set_cons_succ])
              refine wpAnyH_done (by kernel_rfl) ?_ _
              go_wp2
              refine bodyPost_ret (v := .agg #[.int .i64 x, .int .i64 y, .int .i64 x', .int .i64 z14]) (by simp (maxDischargeDepth := 8) [results, Try.results71, go_sem, *]) rfl ?_
              refine ⟨x, y, x', z14, rfl, ?_, ?_⟩
              · exact grown_setN (grown_setN (grown_setN (grown_setN (grown_setN HG14.out (Nat.le_of_lt hwl) _ _) (Nat.le_refl _) _ _) (Nat.le_refl _) _ _) (Nat.le_refl _) _ _) (Nat.le_refl _) _ _
              · exact sr_set (sr_set (sr_set (sr_set (sr_set hS14 _ _ _ hsl1) _ _ _ hsl) _ _ _ hsl) _ _ _ hsl) _ _ _ hsl
      · go_simp
        have hS11 := sr_alloc hSd (.cells #[.int .i64 1000001, .int .i64 (-1099511627776)] 2)
        have HR11 := Lib.hid (Four.kept HRd.out (World.grownBy_alloc _ (.cells #[.int .i64 1000001, .int .i64 (-1099511627776)] 2) none) (by simp))
        have HM11 := Lib.hid (Four.kept HMd.out (World.grownBy_alloc _ (.cells #[.int .i64 1000001, .int .i64 (-1099511627776)] 2) none) (by simp))
        have HG11 := Lib.hid (World.grownBy.trans HGd.out (World.grownBy_alloc _ (.cells #[.int .i64 1000001, .int .i64 (-1099511627776)] 2) _))
        have HL11 := Lib.hid (fun j hj => row_new w7.drew [1000001, -1099511627776] 2 j hj)
        have hq11 : w7.drew.heap.size < (w7.drew.alloc (.cells #[.int .i64 1000001, .int .i64 (-1099511627776)] 2)).heap.size := by simp
        have hqs11 : s < w7.drew.heap.size := hSd.lt
        refine hK.out _ _ trivial (fun hHeld2 => ?_)
        clear hHeld; rename _ => hHeld; clear hK K
        (try simp only [Act.put, List.getElem_toArray, List.getElem_cons_succ, List.getElem_cons_zero, List.setIfInBounds_toArray, List.set_cons_zero, List.set_cons_succ])
        refine wpAnyH_ready (rs := [1]) (by kernel_rfl) (by simp) ?_; refine AllReadyH.cons rfl (fun K hK => ?_) AllReadyH.nil
        go_simp
        go_at_call 87
        refine (l01Next_any s a n cap _ _ hS11).mono ?_
        rintro e y12 ⟨z12, rfl, -, hv12, hg12, hS12⟩
        obtain ⟨l12, u12⟩ := hv12 (by omega)
        have HR12 := Lib.hid (Four.kept HR11.out hg12 (fun e => by simp at e; omega))
        have HM12 := Lib.hid (Four.kept HM11.out hg12 (fun e => by simp at e; omega))
        have HG12 := Lib.hid (World.grownBy.trans HG11.out hg12)
        have HL12 := Lib.hid (fun j hj => ((kept_cell hg12 hq11 (fun e => by simp at e; omega) j).1).trans (HL11.out j hj))
        have hq12 : w7.drew.heap.size < y12.heap.size := Nat.lt_of_lt_of_le hq11 hg12.size
        clear hg12 hv12
        refine hK.out _ _ trivial (fun hHeld2 => ?_)
        clear hHeld; rename _ => hHeld; clear hK K
        (try simp only [Act.put, List.getElem_toArray, List.getElem_cons_succ, List.getElem_cons_zero, List.setIfInBounds_toArray, List.set_cons_zero, List.set_cons_succ])
        rcases (show z12 = 0 ∨ z12 = 1 by omega) with rfl | rfl
        · (refine wpAnyH_take (i := 7) (v := ?_) rfl (by kernel_rfl) (by kernel_rfl) (by kernel_rfl) (fun _ _ _ h => h) (Or.inl ⟨rfl, ?_⟩) (by assumption) ?_; rotate_left; focus (intro w hSw; (try dsimp only at hSw); go_simp; try (with_reducible rfl))); (try simp only [Act.put, List.getElem_toArray, List.getElem_cons_succ, List.getElem_cons_zero, List.setIfInBounds_toArray, List.set_cons_zero, List.set_cons_succ])
          refine wpAnyH_ready (rs := [3]) (by kernel_rfl) (by simp) ?_; refine AllReadyH.cons rfl (fun K hK => ?_) AllReadyH.nil
          go_simp
          go_at_call 87
          refine (l01Next_any s a n cap _ _ hS12).mono ?_
          rintro e y13 ⟨z13, rfl, -, hv13, hg13, hS13⟩
          obtain ⟨l13, u13⟩ := hv13 (by omega)
          have HR13 := Lib.hid (Four.kept HR12.out hg13 (fun e => by simp at e; omega))
          have HM13 := Lib.hid (Four.kept HM12.out hg13 (fun e => by simp at e; omega))
          have HG13 := Lib.hid (World.grownBy.trans HG12.out hg13)
          have HL13 := Lib.hid (fun j hj => ((kept_cell hg13 hq12 (fun e => by simp at e; omega) j).1).trans (HL12.out j hj))
          have hq13 : w7.drew.heap.size < y13.heap.size := Nat.lt_of_lt_of_le hq12 hg13.size
          clear hg13 hv13
          refine hK.out _ _ trivial (fun hHeld2 => ?_)
          clear hHeld; rename _ => hHeld; clear hK K
          (try simp only [Act.put, List.getElem_toArray, List.getElem_cons_succ, List.getElem_cons_zero, List.setIfInBounds_toArray, List.set_cons_zero, List.set_cons_succ])
          rcases (show z13 = 0 ∨ z13 = 1 by omega) with rfl | rfl
          · refine wpAnyH_ready (rs := [6]) (by kernel_rfl) (by simp) ?_; refine AllReadyH.cons rfl (fun K hK => ?_) AllReadyH.nil
            go_simp
            go_at_call 100
            refine (l01Pick_any s (w7.drew.heap.size) 2 a n cap [1000001, -1099511627776] _ hS13 hq13 (by omega) (by simp) (by simp) HL13.out).mono ?_
            rintro e y14 ⟨z14, -, rfl, hg14, hS14⟩
            have HR14 := Lib.hid (Four.kept HR13.out hg14 (fun e => by simp at e; omega))
            have HM14 := Lib.hid (Four.kept HM13.out hg14 (fun e => by simp at e; omega))
            have HG14 := Lib.hid (World.grownBy.trans HG13.out hg14)
            clear hg14
            refine hK.out _ _ trivial (fun hHeld2 => ?_)
            clear hHeld; rename _ => hHeld; clear hK K
            (try simp only [Act.put, List.getElem_toArray, List.getElem_cons_succ, List.getElem_cons_zero, List.setIfInBounds_toArray, List.set_cons_zero, List.set_cons_succ])
            (refine wpAnyH_take (i := 8) (v := ?_) rfl (by kernel_rfl) (by kernel_rfl) (by kernel_rfl) (fun _ _ _ h => h) (Or.inl ⟨rfl, ?_⟩) (by assumption) ?_; rotate_left; focus (intro w hSw; (try dsimp only at hSw); go_simp; try (with_reducible rfl))); (try simp only [Act.put, List.getElem_toArray, List.getElem_cons_succ, List.getElem_cons_zero, List.setIfInBounds_toArray, List.set_cons_zero, List.set_cons_succ])
            obtain ⟨c0, c1, c2, c3, f0, f1, f2, f3, hb⟩ := HM14.out
            obtain ⟨d0, d1, d2, d3, g0, g1, g2, g3, hd⟩ := HR14.out
            refine wpAnyH_ready (rs := [9]) (by kernel_rfl) (by simp) ?_; refine AllReadyH.cons rfl (fun K hK => ?_) AllReadyH.nil
            go_simp
            refine hK.out _ _ trivial (fun hHeld2 => ?_)
            clear hHeld; rename _ => hHeld; clear hK K
            (try simp only [Act.put, List.getElem_toArray, List.getElem_cons_succ, List.getElem_cons_zero, List.setIfInBounds_toArray, List.set_cons_zero, List.set_cons_succ])
            refine wpAnyH_done (by kernel_rfl) ?_ _
            go_wp2
            refine bodyPost_ret (v := .agg #[.int .i64 z14, .int .i64 y, .int .i64 x', .int .i64 y']) (by simp (maxDischargeDepth := 8) [results, Try.results71, go_sem, *]) rfl ?_
            refine ⟨z14, y, x', y', rfl, ?_, ?_⟩
            · exact grown_setN (grown_setN (grown_setN (grown_setN (grown_setN HG14.out (Nat.le_of_lt hwl) _ _) (Nat.le_refl _) _ _) (Nat.le_refl _) _ _) (Nat.le_refl _) _ _) (Nat.le_refl _) _ _
            · exact sr_set (sr_set (sr_set (sr_set (sr_set hS14 _ _ _ hsl1) _ _ _ hsl) _ _ _ hsl) _ _ _ hsl) _ _ _ hsl
          · refine wpAnyH_ready (rs := [6]) (by kernel_rfl) (by simp) ?_; refine AllReadyH.cons rfl (fun K hK => ?_) AllReadyH.nil
            go_simp
            go_at_call 100
            refine (l01Pick_any s (w7.drew.heap.size) 2 a n cap [1000001, -1099511627776] _ hS13 hq13 (by omega) (by simp) (by simp) HL13.out).mono ?_
            rintro e y14 ⟨z14, -, rfl, hg14, hS14⟩
            have HR14 := Lib.hid (Four.kept HR13.out hg14 (fun e => by simp at e; omega))
            have HM14 := Lib.hid (Four.kept HM13.out hg14 (fun e => by simp at e; omega))
            have HG14 := Lib.hid (World.grownBy.trans HG13.out hg14)
            clear hg14
            refine hK.out _ _ trivial (fun hHeld2 => ?_)
            clear hHeld; rename _ => hHeld; clear hK K
            (try simp only [Act.put, List.getElem_toArray, List.getElem_cons_succ, List.getElem_cons_zero, List.setIfInBounds_toArray, List.set_cons_zero, List.set_cons_succ])
            (refine wpAnyH_take (i := 8) (v := ?_) rfl (by kernel_rfl) (by kernel_rfl) (by kernel_rfl) (fun _ _ _ h => h) (Or.inl ⟨rfl, ?_⟩) (by assumption) ?_; rotate_left; focus (intro w hSw; (try dsimp only at hSw); go_simp; try (with_reducible rfl))); (try simp only [Act.put, List.getElem_toArray, List.getElem_cons_succ, List.getElem_cons_zero, List.setIfInBounds_toArray, List.set_cons_zero, List.set_cons_succ])
            obtain ⟨c0, c1, c2, c3, f0, f1, f2, f3, hb⟩ := HM14.out
            obtain ⟨d0, d1, d2, d3, g0, g1, g2, g3, hd⟩ := HR14.out
            refine wpAnyH_ready (rs := [9]) (by kernel_rfl) (by simp) ?_; refine AllReadyH.cons rfl (fun K hK => ?_) AllReadyH.nil
            go_simp
            refine hK.out _ _ trivial (fun hHeld2 => ?_)
            clear hHeld; rename _ => hHeld; clear hK K
            (try simp only [Act.put, List.getElem_toArray, List.getElem_cons_succ, List.getElem_cons_zero, List.setIfInBounds_toArray, List.set_cons_zero, List.set_cons_succ])
            refine wpAnyH_done (by kernel_rfl) ?_ _
            go_wp2
            refine bodyPost_ret (v := .agg #[.int .i64 x, .int .i64 z14, .int .i64 x', .int .i64 y']) (by simp (maxDischargeDepth := 8) [results, Try.results71, go_sem, *]) rfl ?_
            refine ⟨x, z14, x', y', rfl, ?_, ?_⟩
            · exact grown_setN (grown_setN (grown_setN (grown_setN (grown_setN HG14.out (Nat.le_of_lt hwl) _ _) (Nat.le_refl _) _ _) (Nat.le_refl _) _ _) (Nat.le_refl _) _ _) (Nat.le_refl _) _ _
            · exact sr_set (sr_set (sr_set (sr_set (sr_set hS14 _ _ _ hsl1) _ _ _ hsl) _ _ _ hsl) _ _ _ hsl) _ _ _ hsl
        · (refine wpAnyH_take (i := 7) (v := ?_) rfl (by kernel_rfl) (by kernel_rfl) (by kernel_rfl) (fun _ _ _ h => h) (Or.inl ⟨rfl, ?_⟩) (by assumption) ?_; rotate_left; focus (intro w hSw; (try dsimp only at hSw); go_simp; try (with_reducible rfl))); (try simp only [Act.put, List.getElem_toArray, List.getElem_cons_succ, List.getElem_cons_zero, List.setIfInBounds_toArray, List.set_cons_zero, List.set_cons_succ])
          refine wpAnyH_ready (rs := [3]) (by kernel_rfl) (by simp) ?_; refine AllReadyH.cons rfl (fun K hK => ?_) AllReadyH.nil
          go_simp
          go_at_call 87
          refine (l01Next_any s a n cap _ _ hS12).mono ?_
          rintro e y13 ⟨z13, rfl, -, hv13, hg13, hS13⟩
          obtain ⟨l13, u13⟩ := hv13 (by omega)
          have HR13 := Lib.hid (Four.kept HR12.out hg13 (fun e => by simp at e; omega))
          have HM13 := Lib.hid (Four.kept HM12.out hg13 (fun e => by simp at e; omega))
          have HG13 := Lib.hid (World.grownBy.trans HG12.out hg13)
          have HL13 := Lib.hid (fun j hj => ((kept_cell hg13 hq12 (fun e => by simp at e; omega) j).1).trans (HL12.out j hj))
          have hq13 : w7.drew.heap.size < y13.heap.size := Nat.lt_of_lt_of_le hq12 hg13.size
          clear hg13 hv13
          refine hK.out _ _ trivial (fun hHeld2 => ?_)
          clear hHeld; rename _ => hHeld; clear hK K
          (try simp only [Act.put, List.getElem_toArray, List.getElem_cons_succ, List.getElem_cons_zero, List.setIfInBounds_toArray, List.set_cons_zero, List.set_cons_succ])
          rcases (show z13 = 0 ∨ z13 = 1 by omega) with rfl | rfl
          · refine wpAnyH_ready (rs := [6]) (by kernel_rfl) (by simp) ?_; refine AllReadyH.cons rfl (fun K hK => ?_) AllReadyH.nil
            go_simp
            go_at_call 100
            refine (l01Pick_any s (w7.drew.heap.size) 2 a n cap [1000001, -1099511627776] _ hS13 hq13 (by omega) (by simp) (by simp) HL13.out).mono ?_
            rintro e y14 ⟨z14, -, rfl, hg14, hS14⟩
            have HR14 := Lib.hid (Four.kept HR13.out hg14 (fun e => by simp at e; omega))
            have HM14 := Lib.hid (Four.kept HM13.out hg14 (fun e => by simp at e; omega))
            have HG14 := Lib.hid (World.grownBy.trans HG13.out hg14)
            clear hg14
            refine hK.out _ _ trivial (fun hHeld2 => ?_)
            clear hHeld; rename _ => hHeld; clear hK K
            (try simp only [Act.put, List.getElem_toArray, List.getElem_cons_succ, List.getElem_cons_zero, List.setIfInBounds_toArray, List.set_cons_zero, List.set_cons_succ])
            (refine wpAnyH_take (i := 8) (v := ?_) rfl (by kernel_rfl) (by kernel_rfl) (by kernel_rfl) (fun _ _ _ h => h) (Or.inl ⟨rfl, ?_⟩) (by assumption) ?_; rotate_left; focus (intro w hSw; (try dsimp only at hSw); go_simp; try (with_reducible rfl))); (try simp only [Act.put, List.getElem_toArray, List.getElem_cons_succ, List.getElem_cons_zero, List.setIfInBounds_toArray, List.set_cons_zero, List.set_cons_succ])
            obtain ⟨c0, c1, c2, c3, f0, f1, f2, f3, hb⟩ := HM14.out
            obtain ⟨d0, d1, d2, d3, g0, g1, g2, g3, hd⟩ := HR14.out
            refine wpAnyH_ready (rs := [9]) (by kernel_rfl) (by simp) ?_; refine AllReadyH.cons rfl (fun K hK => ?_) AllReadyH.nil
            go_simp
            refine hK.out _ _ trivial (fun hHeld2 => ?_)
            clear hHeld; rename _ => hHeld; clear hK K
            (try simp only [Act.put, List.getElem_toArray, List.getElem_cons_succ, List.getElem_cons_zero, List.setIfInBounds_toArray, List.set_cons_zero, List.set_cons_succ])
            refine wpAnyH_done (by kernel_rfl) ?_ _
            go_wp2
            refine bodyPost_ret (v := .agg #[.int .i64 x, .int .i64 y, .int .i64 z14, .int .i64 y']) (by simp (maxDischargeDepth := 8) [results, Try.results71, go_sem, *]) rfl ?_
            refine ⟨x, y, z14, y', rfl, ?_, ?_⟩
            · exact grown_setN (grown_setN (grown_setN (grown_setN (grown_setN HG14.out (Nat.le_of_lt hwl) _ _) (Nat.le_refl _) _ _) (Nat.le_refl _) _ _) (Nat.le_refl _) _ _) (Nat.le_refl _) _ _
            · exact sr_set (sr_set (sr_set (sr_set (sr_set hS14 _ _ _ hsl1) _ _ _ hsl) _ _ _ hsl) _ _ _ hsl) _ _ _ hsl
          · refine wpAnyH_ready (rs := [6]) (by kernel_rfl) (by simp) ?_; refine AllReadyH.cons rfl (fun K hK => ?_) AllReadyH.nil
            go_simp
            go_at_call 100
            refine (l01Pick_any s (w7.drew.heap.size) 2 a n cap [1000001, -1099511627776] _ hS13 hq13 (by omega) (by simp) (by simp) HL13.out).mono ?_
            rintro e y14 ⟨z14, -, rfl, hg14, hS14⟩
            have HR14 := Lib.hid (Four.kept HR13.out hg14 (fun e => by simp at e; omega))
            have HM14 := Lib.hid (Four.kept HM13.out hg14 (fun e => by simp at e; omega))
            have HG14 := Lib.hid (World.grownBy.trans HG13.out hg14)
            clear hg14
            refine hK.out _ _ trivial (fun hHeld2 => ?_)
            clear hHeld; rename _ => hHeld; clear hK K
            (try simp only [Act.put, List.getElem_toArray, List.getElem_cons_succ, List.getElem_cons_zero, List.setIfInBounds_toArray, List.set_cons_zero, List.set_cons_succ])
            (refine wpAnyH_take (i := 8) (v := ?_) rfl (by kernel_rfl) (by kernel_rfl) (by kernel_rfl) (fun _ _ _ h => h) (Or.inl ⟨rfl, ?_⟩) (by assumption) ?_; rotate_left; focus (intro w hSw; (try dsimp only at hSw); go_simp; try (with_reducible rfl))); (try simp only [Act.put, List.getElem_toArray, List.getElem_cons_succ, List.getElem_cons_zero, List.setIfInBounds_toArray, List.set_cons_zero, List.set_cons_succ])
            obtain ⟨c0, c1, c2, c3, f0, f1, f2, f3, hb⟩ := HM14.out
            obtain ⟨d0, d1, d2, d3, g0, g1, g2, g3, hd⟩ := HR14.out
            refine wpAnyH_ready (rs := [9]) (by kernel_rfl) (by simp) ?_; refine AllReadyH.cons rfl (fun K hK => ?_) AllReadyH.nil
            go_simp
            refine hK.out _ _ trivial (fun hHeld2 => ?_)
            clear hHeld; rename _ => hHeld; clear hK K
            (try simp only [Act.put, List.getElem_toArray, List.getElem_cons_succ, List.getElem_cons_zero, List.setIfInBounds_toArray, List.set_cons_zero, List.set_cons_succ])
            refine wpAnyH_done (by kernel_rfl) ?_ _
            go_wp2
            refine bodyPost_ret (v := .agg #[.int .i64 x, .int .i64 y, .int .i64 x', .int .i64 z14]) (by simp (maxDischargeDepth := 8) [results, Try.results71, go_sem, *]) rfl ?_
            refine ⟨x, y, x', z14, rfl, ?_, ?_⟩
            · exact grown_setN (grown_setN (grown_setN (grown_setN (grown_setN HG14.out (Nat.le_of_lt hwl) _ _) (Nat.le_refl _) _ _) (Nat.le_refl _) _ _) (Nat.le_refl _) _ _) (Nat.le_refl _) _ _
            · exact sr_set (sr_set (sr_set (sr_set (sr_set hS14 _ _ _ hsl1) _ _ _ hsl) _ _ _ hsl) _ _ _ hsl) _ _ _ hsl
    · go_wp2
      refine bodyPost_ret (v := .agg #[.int .i64 x, .int .i64 y, .int .i64 x', .int .i64 y']) (by simp (maxDischargeDepth := 8) [results, Try.results71, go_sem, *]) rfl ?_
      refine ⟨x, y, x', y', rfl, ?_, ?_⟩
      · exact grown_setN (grown_setN (grown_setN (grown_setN G7.out (Nat.le_refl _) _ _) (Nat.le_refl _) _ _) (Nat.le_refl _) _ _) (Nat.le_refl _) _ _
      · exact sr_set (sr_set (sr_set (sr_set hs7 _ _ _ hsl) _ _ _ hsl) _ _ _ hsl) _ _ _ hsl
  · obtain ⟨c0, c1, c2, c3, f0, f1, f2, f3, hb⟩ := HM2.out
    obtain ⟨d0, d1, d2, d3, g0, g1, g2, g3, hd⟩ := HR2.out
    go_wp2_with fail
    go_at_call 87
    refine (l01Next_any s a n cap _ _ hs2).mono ?_
    rintro e w3 ⟨v3, rfl, -, hv3, hg3, hs3⟩
    have HR3 := Lib.hid (HR2.out.kept hg3 (fun e => by simp at e; omega))
    have HM3 := Lib.hid (HM2.out.kept hg3 (fun e => by simp at e; omega))
    have G3 := Lib.hid (G2.out.trans hg3)
    clear hg3 hv3 hs2 c0 c1 c2 c3 f0 f1 f2 f3 hb d0 d1 d2 d3 g0 g1 g2 g3 hd
    obtain ⟨c0, c1, c2, c3, f0, f1, f2, f3, hb⟩ := HM3.out
    obtain ⟨d0, d1, d2, d3, g0, g1, g2, g3, hd⟩ := HR3.out
    by_cases hz3 : v3 = 0
    · subst hz3
      go_wp2_with fail
      refine wp_region_held_drew (S := fun _ => True) (by kernel_rfl) trivial (fun hHeld => ?_)
      have hSd := sr_drew hs3
      have HRd := Lib.hid (Four.kept HR3.out (grown_drew w3 none) (by simp))
      have HMd := Lib.hid (Four.kept HM3.out (grown_drew w3 none) (by simp))
      have HGd := Lib.hid (World.grownBy.trans G3.out (grown_drew w3 _))
      (refine wpAnyH_take (i := 0) (v := ?_) rfl (by kernel_rfl) (by kernel_rfl) (by kernel_rfl) (fun _ _ _ h => h) (Or.inl ⟨rfl, ?_⟩) (by assumption) ?_; rotate_left; focus (intro w hSw; (try dsimp only at hSw); go_simp; try (with_reducible rfl))); (try simp only [Act.put, List.getElem_toArray, List.getElem_cons_succ, List.getElem_cons_zero, List.setIfInBounds_toArray, List.set_cons_zero, List.set_cons_succ])
      (refine wpAnyH_take (i := 2) (v := ?_) rfl (by kernel_rfl) (by kernel_rfl) (by kernel_rfl) (fun _ _ _ h => h) (Or.inl ⟨rfl, ?_⟩) (by assumption) ?_; rotate_left; focus (intro w hSw; (try dsimp only at hSw); go_simp; try (with_reducible rfl))); (try simp only [Act.put, List.getElem_toArray, List.getElem_cons_succ, List.getElem_cons_zero, List.setIfInBounds_toArray, List.set_cons_zero, List.set_cons_succ])
      (refine wpAnyH_take (i := 4) (v := ?_) rfl (by kernel_rfl) (by kernel_rfl) (by kernel_rfl) (fun _ _ _ h => h) (Or.inl ⟨rfl, ?_⟩) (by assumption) ?_; rotate_left; focus (intro w hSw; (try dsimp only at hSw); go_simp; try (with_reducible rfl))); (try simp only [Act.put, List.getElem_toArray, List.getElem_cons_succ, List.getElem_cons_zero, List.setIfInBounds_toArray, List.set_cons_zero, List.set_cons_succ])
      refine wpAnyH_ready (rs := [1, 5]) (by kernel_rfl) (by simp) ?_; refine AllReadyH.cons rfl (fun K hK => ?_) (AllReadyH.cons rfl (fun K hK => ?_) AllReadyH.nil)
      · go_simp
        go_at_call 87
        refine (l01Next_any s a n cap _ _ hSd).mono ?_
        rintro e y11 ⟨z11, rfl, -, hv11, hg11, hS11⟩
        obtain ⟨l11, u11⟩ := hv11 (by omega)
        have HR11 := Lib.hid (Four.kept HRd.out hg11 (fun e => by simp at e; omega))
        have HM11 := Lib.hid (Four.kept HMd.out hg11 (fun e => by simp at e; omega))
        have HG11 := Lib.hid (World.grownBy.trans HGd.out hg11)
        clear hg11 hv11
        refine hK.out _ _ trivial (fun hHeld2 => ?_)
        clear hHeld; rename _ => hHeld; clear hK K
        (try simp only [Act.put, List.getElem_toArray, List.getElem_cons_succ, List.getElem_cons_zero, List.setIfInBounds_toArray, List.set_cons_zero, List.set_cons_succ])
        rcases (show z11 = 0 ∨ z11 = 1 by omega) with rfl | rfl
        · (refine wpAnyH_take (i := 7) (v := ?_) rfl (by kernel_rfl) (by kernel_rfl) (by kernel_rfl) (fun _ _ _ h => h) (Or.inl ⟨rfl, ?_⟩) (by assumption) ?_; rotate_left; focus (intro w hSw; (try dsimp only at hSw); go_simp; try (with_reducible rfl))); (try simp only [Act.put, List.getElem_toArray, List.getElem_cons_succ, List.getElem_cons_zero, List.setIfInBounds_toArray, List.set_cons_zero, List.set_cons_succ])
          refine wpAnyH_ready (rs := [3, 5]) (by kernel_rfl) (by simp) ?_; refine AllReadyH.cons rfl (fun K hK => ?_) (AllReadyH.cons rfl (fun K hK => ?_) AllReadyH.nil)
          · go_simp
            go_at_call 87
            refine (l01Next_any s a n cap _ _ hS11).mono ?_
            rintro e y12 ⟨z12, rfl, -, hv12, hg12, hS12⟩
            obtain ⟨l12, u12⟩ := hv12 (by omega)
            have HR12 := Lib.hid (Four.kept HR11.out hg12 (fun e => by simp at e; omega))
            have HM12 := Lib.hid (Four.kept HM11.out hg12 (fun e => by simp at e; omega))
            have HG12 := Lib.hid (World.grownBy.trans HG11.out hg12)
            clear hg12 hv12
            refine hK.out _ _ trivial (fun hHeld2 => ?_)
            clear hHeld; rename _ => hHeld; clear hK K
            (try simp only [Act.put, List.getElem_toArray, List.getElem_cons_succ, List.getElem_cons_zero, List.setIfInBounds_toArray, List.set_cons_zero, List.set_cons_succ])
            rcases (show z12 = 0 ∨ z12 = 1 by omega) with rfl | rfl
            · refine wpAnyH_ready (rs := [5]) (by kernel_rfl) (by simp) ?_; refine AllReadyH.cons rfl (fun K hK => ?_) AllReadyH.nil
              go_simp
              have hS13 := sr_alloc hS12 (.cells #[.int .i64 1000001, .int .i64 (-1099511627776)] 2)
              have HR13 := Lib.hid (Four.kept HR12.out (World.grownBy_alloc _ (.cells #[.int .i64 1000001, .int .i64 (-1099511627776)] 2) none) (by simp))
              have HM13 := Lib.hid (Four.kept HM12.out (World.grownBy_alloc _ (.cells #[.int .i64 1000001, .int .i64 (-1099511627776)] 2) none) (by simp))
              have HG13 := Lib.hid (World.grownBy.trans HG12.out (World.grownBy_alloc _ (.cells #[.int .i64 1000001, .int .i64 (-1099511627776)] 2) _))
              have HL13 := Lib.hid (fun j hj => row_new y12 [1000001, -1099511627776] 2 j hj)
              have hq13 : y12.heap.size < (y12.alloc (.cells #[.int .i64 1000001, .int .i64 (-1099511627776)] 2)).heap.size := by simp
              have hqs13 : s < y12.heap.size := hS12.lt
              refine hK.out _ _ trivial (fun hHeld2 => ?_)
              clear hHeld; rename _ => hHeld; clear hK K
              (try simp only [Act.put, List.getElem_toArray, List.getElem_cons_succ, List.getElem_cons_zero, List.setIfInBounds_toArray, List.set_cons_zero, List.set_cons_succ])
              refine wpAnyH_ready (rs := [6]) (by kernel_rfl) (by simp) ?_; refine AllReadyH.cons rfl (fun K hK => ?_) AllReadyH.nil
              go_simp
              go_at_call 100
              refine (l01Pick_any s (y12.heap.size) 2 a n cap [1000001, -1099511627776] _ hS13 hq13 (by omega) (by simp) (by simp) HL13.out).mono ?_
              rintro e y14 ⟨z14, -, rfl, hg14, hS14⟩
              have HR14 := Lib.hid (Four.kept HR13.out hg14 (fun e => by simp at e; omega))
              have HM14 := Lib.hid (Four.kept HM13.out hg14 (fun e => by simp at e; omega))
              have HG14 := Lib.hid (World.grownBy.trans HG13.out hg14)
              clear hg14
              refine hK.out _ _ trivial (fun hHeld2 => ?_)
              clear hHeld; rename _ => hHeld; clear hK K
              (try simp only [Act.put, List.getElem_toArray, List.getElem_cons_succ, List.getElem_cons_zero, List.setIfInBounds_toArray, List.set_cons_zero, List.set_cons_succ])
              (refine wpAnyH_take (i := 8) (v := ?_) rfl (by kernel_rfl) (by kernel_rfl) (by kernel_rfl) (fun _ _ _ h => h) (Or.inl ⟨rfl, ?_⟩) (by assumption) ?_; rotate_left; focus (intro w hSw; (try dsimp only at hSw); go_simp; try (with_reducible rfl))); (try simp only [Act.put, List.getElem_toArray, List.getElem_cons_succ, List.getElem_cons_zero, List.setIfInBounds_toArray, List.set_cons_zero, List.set_cons_succ])
              obtain ⟨c0, c1, c2, c3, f0, f1, f2, f3, hb⟩ := HM14.out
              obtain ⟨d0, d1, d2, d3, g0, g1, g2, g3, hd⟩ := HR14.out
              refine wpAnyH_ready (rs := [9]) (by kernel_rfl) (by simp) ?_; refine AllReadyH.cons rfl (fun K hK => ?_) AllReadyH.nil
              go_simp
              refine hK.out _ _ trivial (fun hHeld2 => ?_)
              clear hHeld; rename _ => hHeld; clear hK K
              (try simp only [Act.put, List.getElem_toArray, List.getElem_cons_succ, List.getElem_cons_zero, List.setIfInBounds_toArray, List.set_cons_zero, List.set_cons_succ])
              refine wpAnyH_done (by kernel_rfl) ?_ _
              go_wp2
              refine bodyPost_ret (v := .agg #[.int .i64 z14, .int .i64 q, .int .i64 r, .int .i64 t]) (by simp (maxDischargeDepth := 8) [results, Try.results71, go_sem, *]) rfl ?_
              refine ⟨z14, q, r, t, rfl, ?_, ?_⟩
              · exact grown_setN (grown_setN (grown_setN (grown_setN (grown_setN HG14.out (Nat.le_of_lt hwl) _ _) (Nat.le_refl _) _ _) (Nat.le_refl _) _ _) (Nat.le_refl _) _ _) (Nat.le_refl _) _ _
              · exact sr_set (sr_set (sr_set (sr_set (sr_set hS14 _ _ _ hsl1) _ _ _ hsl) _ _ _ hsl) _ _ _ hsl) _ _ _ hsl
            · refine wpAnyH_ready (rs := [5]) (by kernel_rfl) (by simp) ?_; refine AllReadyH.cons rfl (fun K hK => ?_) AllReadyH.nil
              go_simp
              have hS13 := sr_alloc hS12 (.cells #[.int .i64 1000001, .int .i64 (-1099511627776)] 2)
              have HR13 := Lib.hid (Four.kept HR12.out (World.grownBy_alloc _ (.cells #[.int .i64 1000001, .int .i64 (-1099511627776)] 2) none) (by simp))
              have HM13 := Lib.hid (Four.kept HM12.out (World.grownBy_alloc _ (.cells #[.int .i64 1000001, .int .i64 (-1099511627776)] 2) none) (by simp))
              have HG13 := Lib.hid (World.grownBy.trans HG12.out (World.grownBy_alloc _ (.cells #[.int .i64 1000001, .int .i64 (-1099511627776)] 2) _))
              have HL13 := Lib.hid (fun j hj => row_new y12 [1000001, -1099511627776] 2 j hj)
              have hq13 : y12.heap.size < (y12.alloc (.cells #[.int .i64 1000001, .int .i64 (-1099511627776)] 2)).heap.size := by simp
              have hqs13 : s < y12.heap.size := hS12.lt
              refine hK.out _ _ trivial (fun hHeld2 => ?_)
              clear hHeld; rename _ => hHeld; clear hK K
              (try simp only [Act.put, List.getElem_toArray, List.getElem_cons_succ, List.getElem_cons_zero, List.setIfInBounds_toArray, List.set_cons_zero, List.set_cons_succ])
              refine wpAnyH_ready (rs := [6]) (by kernel_rfl) (by simp) ?_; refine AllReadyH.cons rfl (fun K hK => ?_) AllReadyH.nil
              go_simp
              go_at_call 100
              refine (l01Pick_any s (y12.heap.size) 2 a n cap [1000001, -1099511627776] _ hS13 hq13 (by omega) (by simp) (by simp) HL13.out).mono ?_
              rintro e y14 ⟨z14, -, rfl, hg14, hS14⟩
              have HR14 := Lib.hid (Four.kept HR13.out hg14 (fun e => by simp at e; omega))
              have HM14 := Lib.hid (Four.kept HM13.out hg14 (fun e => by simp at e; omega))
              have HG14 := Lib.hid (World.grownBy.trans HG13.out hg14)
              clear hg14
              refine hK.out _ _ trivial (fun hHeld2 => ?_)
              clear hHeld; rename _ => hHeld; clear hK K
              (try simp only [Act.put, List.getElem_toArray, List.getElem_cons_succ, List.getElem_cons_zero, List.setIfInBounds_toArray, List.set_cons_zero, List.set_cons_succ])
              (refine wpAnyH_take (i := 8) (v := ?_) rfl (by kernel_rfl) (by kernel_rfl) (by kernel_rfl) (fun _ _ _ h => h) (Or.inl ⟨rfl, ?_⟩) (by assumption) ?_; rotate_left; focus (intro w hSw; (try dsimp only at hSw); go_simp; try (with_reducible rfl))); (try simp only [Act.put, List.getElem_toArray, List.getElem_cons_succ, List.getElem_cons_zero, List.setIfInBounds_toArray, List.set_cons_zero, List.set_cons_succ])
              obtain ⟨c0, c1, c2, c3, f0, f1, f2, f3, hb⟩ := HM14.out
              obtain ⟨d0, d1, d2, d3, g0, g1, g2, g3, hd⟩ := HR14.out
              refine wpAnyH_ready (rs := [9]) (by kernel_rfl) (by simp) ?_; refine AllReadyH.cons rfl (fun K hK => ?_) AllReadyH.nil
              go_simp
              refine hK.out _ _ trivial (fun hHeld2 => ?_)
              clear hHeld; rename _ => hHeld; clear hK K
              (try simp only [Act.put, List.getElem_toArray, List.getElem_cons_succ, List.getElem_cons_zero, List.setIfInBounds_toArray, List.set_cons_zero, List.set_cons_succ])
              refine wpAnyH_done (by kernel_rfl) ?_ _
              go_wp2
              refine bodyPost_ret (v := .agg #[.int .i64 p, .int .i64 z14, .int .i64 r, .int .i64 t]) (by simp (maxDischargeDepth := 8) [results, Try.results71, go_sem, *]) rfl ?_
              refine ⟨p, z14, r, t, rfl, ?_, ?_⟩
              · exact grown_setN (grown_setN (grown_setN (grown_setN (grown_setN HG14.out (Nat.le_of_lt hwl) _ _) (Nat.le_refl _) _ _) (Nat.le_refl _) _ _) (Nat.le_refl _) _ _) (Nat.le_refl _) _ _
              · exact sr_set (sr_set (sr_set (sr_set (sr_set hS14 _ _ _ hsl1) _ _ _ hsl) _ _ _ hsl) _ _ _ hsl) _ _ _ hsl
          · go_simp
            have hS12 := sr_alloc hS11 (.cells #[.int .i64 1000001, .int .i64 (-1099511627776)] 2)
            have HR12 := Lib.hid (Four.kept HR11.out (World.grownBy_alloc _ (.cells #[.int .i64 1000001, .int .i64 (-1099511627776)] 2) none) (by simp))
            have HM12 := Lib.hid (Four.kept HM11.out (World.grownBy_alloc _ (.cells #[.int .i64 1000001, .int .i64 (-1099511627776)] 2) none) (by simp))
            have HG12 := Lib.hid (World.grownBy.trans HG11.out (World.grownBy_alloc _ (.cells #[.int .i64 1000001, .int .i64 (-1099511627776)] 2) _))
            have HL12 := Lib.hid (fun j hj => row_new y11 [1000001, -1099511627776] 2 j hj)
            have hq12 : y11.heap.size < (y11.alloc (.cells #[.int .i64 1000001, .int .i64 (-1099511627776)] 2)).heap.size := by simp
            have hqs12 : s < y11.heap.size := hS11.lt
            refine hK.out _ _ trivial (fun hHeld2 => ?_)
            clear hHeld; rename _ => hHeld; clear hK K
            (try simp only [Act.put, List.getElem_toArray, List.getElem_cons_succ, List.getElem_cons_zero, List.setIfInBounds_toArray, List.set_cons_zero, List.set_cons_succ])
            refine wpAnyH_ready (rs := [3]) (by kernel_rfl) (by simp) ?_; refine AllReadyH.cons rfl (fun K hK => ?_) AllReadyH.nil
            go_simp
            go_at_call 87
            refine (l01Next_any s a n cap _ _ hS12).mono ?_
            rintro e y13 ⟨z13, rfl, -, hv13, hg13, hS13⟩
            obtain ⟨l13, u13⟩ := hv13 (by omega)
            have HR13 := Lib.hid (Four.kept HR12.out hg13 (fun e => by simp at e; omega))
            have HM13 := Lib.hid (Four.kept HM12.out hg13 (fun e => by simp at e; omega))
            have HG13 := Lib.hid (World.grownBy.trans HG12.out hg13)
            have HL13 := Lib.hid (fun j hj => ((kept_cell hg13 hq12 (fun e => by simp at e; omega) j).1).trans (HL12.out j hj))
            have hq13 : y11.heap.size < y13.heap.size := Nat.lt_of_lt_of_le hq12 hg13.size
            clear hg13 hv13
            refine hK.out _ _ trivial (fun hHeld2 => ?_)
            clear hHeld; rename _ => hHeld; clear hK K
            (try simp only [Act.put, List.getElem_toArray, List.getElem_cons_succ, List.getElem_cons_zero, List.setIfInBounds_toArray, List.set_cons_zero, List.set_cons_succ])
            rcases (show z13 = 0 ∨ z13 = 1 by omega) with rfl | rfl
            · refine wpAnyH_ready (rs := [6]) (by kernel_rfl) (by simp) ?_; refine AllReadyH.cons rfl (fun K hK => ?_) AllReadyH.nil
              go_simp
              go_at_call 100
              refine (l01Pick_any s (y11.heap.size) 2 a n cap [1000001, -1099511627776] _ hS13 hq13 (by omega) (by simp) (by simp) HL13.out).mono ?_
              rintro e y14 ⟨z14, -, rfl, hg14, hS14⟩
              have HR14 := Lib.hid (Four.kept HR13.out hg14 (fun e => by simp at e; omega))
              have HM14 := Lib.hid (Four.kept HM13.out hg14 (fun e => by simp at e; omega))
              have HG14 := Lib.hid (World.grownBy.trans HG13.out hg14)
              clear hg14
              refine hK.out _ _ trivial (fun hHeld2 => ?_)
              clear hHeld; rename _ => hHeld; clear hK K
              (try simp only [Act.put, List.getElem_toArray, List.getElem_cons_succ, List.getElem_cons_zero, List.setIfInBounds_toArray, List.set_cons_zero, List.set_cons_succ])
              (refine wpAnyH_take (i := 8) (v := ?_) rfl (by kernel_rfl) (by kernel_rfl) (by kernel_rfl) (fun _ _ _ h => h) (Or.inl ⟨rfl, ?_⟩) (by assumption) ?_; rotate_left; focus (intro w hSw; (try dsimp only at hSw); go_simp; try (with_reducible rfl))); (try simp only [Act.put, List.getElem_toArray, List.getElem_cons_succ, List.getElem_cons_zero, List.setIfInBounds_toArray, List.set_cons_zero, List.set_cons_succ])
              obtain ⟨c0, c1, c2, c3, f0, f1, f2, f3, hb⟩ := HM14.out
              obtain ⟨d0, d1, d2, d3, g0, g1, g2, g3, hd⟩ := HR14.out
              refine wpAnyH_ready (rs := [9]) (by kernel_rfl) (by simp) ?_; refine AllReadyH.cons rfl (fun K hK => ?_) AllReadyH.nil
              go_simp
              refine hK.out _ _ trivial (fun hHeld2 => ?_)
              clear hHeld; rename _ => hHeld; clear hK K
              (try simp only [Act.put, List.getElem_toArray, List.getElem_cons_succ, List.getElem_cons_zero, List.setIfInBounds_toArray, List.set_cons_zero, List.set_cons_succ])
              refine wpAnyH_done (by kernel_rfl) ?_ _
              go_wp2
              refine bodyPost_ret (v := .agg #[.int .i64 z14, .int .i64 q, .int .i64 r, .int .i64 t]) (by simp (maxDischargeDepth := 8) [results, Try.results71, go_sem, *]) rfl ?_
              refine ⟨z14, q, r, t, rfl, ?_, ?_⟩
              · exact grown_setN (grown_setN (grown_setN (grown_setN (grown_setN HG14.out (Nat.le_of_lt hwl) _ _) (Nat.le_refl _) _ _) (Nat.le_refl _) _ _) (Nat.le_refl _) _ _) (Nat.le_refl _) _ _
              · exact sr_set (sr_set (sr_set (sr_set (sr_set hS14 _ _ _ hsl1) _ _ _ hsl) _ _ _ hsl) _ _ _ hsl) _ _ _ hsl
            · refine wpAnyH_ready (rs := [6]) (by kernel_rfl) (by simp) ?_; refine AllReadyH.cons rfl (fun K hK => ?_) AllReadyH.nil
              go_simp
              go_at_call 100
              refine (l01Pick_any s (y11.heap.size) 2 a n cap [1000001, -1099511627776] _ hS13 hq13 (by omega) (by simp) (by simp) HL13.out).mono ?_
              rintro e y14 ⟨z14, -, rfl, hg14, hS14⟩
              have HR14 := Lib.hid (Four.kept HR13.out hg14 (fun e => by simp at e; omega))
              have HM14 := Lib.hid (Four.kept HM13.out hg14 (fun e => by simp at e; omega))
              have HG14 := Lib.hid (World.grownBy.trans HG13.out hg14)
              clear hg14
              refine hK.out _ _ trivial (fun hHeld2 => ?_)
              clear hHeld; rename _ => hHeld; clear hK K
              (try simp only [Act.put, List.getElem_toArray, List.getElem_cons_succ, List.getElem_cons_zero, List.setIfInBounds_toArray, List.set_cons_zero, List.set_cons_succ])
              (refine wpAnyH_take (i := 8) (v := ?_) rfl (by kernel_rfl) (by kernel_rfl) (by kernel_rfl) (fun _ _ _ h => h) (Or.inl ⟨rfl, ?_⟩) (by assumption) ?_; rotate_left; focus (intro w hSw; (try dsimp only at hSw); go_simp; try (with_reducible rfl))); (try simp only [Act.put, List.getElem_toArray, List.getElem_cons_succ, List.getElem_cons_zero, List.setIfInBounds_toArray, List.set_cons_zero, List.set_cons_succ])
              obtain ⟨c0, c1, c2, c3, f0, f1, f2, f3, hb⟩ := HM14.out
              obtain ⟨d0, d1, d2, d3, g0, g1, g2, g3, hd⟩ := HR14.out
              refine wpAnyH_ready (rs := [9]) (by kernel_rfl) (by simp) ?_; refine AllReadyH.cons rfl (fun K hK => ?_) AllReadyH.nil
              go_simp
              refine hK.out _ _ trivial (fun hHeld2 => ?_)
              clear hHeld; rename _ => hHeld; clear hK K
              (try simp only [Act.put, List.getElem_toArray, List.getElem_cons_succ, List.getElem_cons_zero, List.setIfInBounds_toArray, List.set_cons_zero, List.set_cons_succ])
              refine wpAnyH_done (by kernel_rfl) ?_ _
              go_wp2
              refine bodyPost_ret (v := .agg #[.int .i64 p, .int .i64 z14, .int .i64 r, .int .i64 t]) (by simp (maxDischargeDepth := 8) [results, Try.results71, go_sem, *]) rfl ?_
              refine ⟨p, z14, r, t, rfl, ?_, ?_⟩
              · exact grown_setN (grown_setN (grown_setN (grown_setN (grown_setN HG14.out (Nat.le_of_lt hwl) _ _) (Nat.le_refl _) _ _) (Nat.le_refl _) _ _) (Nat.le_refl _) _ _) (Nat.le_refl _) _ _
              · exact sr_set (sr_set (sr_set (sr_set (sr_set hS14 _ _ _ hsl1) _ _ _ hsl) _ _ _ hsl) _ _ _ hsl) _ _ _ hsl
        · (refine wpAnyH_take (i := 7) (v := ?_) rfl (by kernel_rfl) (by kernel_rfl) (by kernel_rfl) (fun _ _ _ h => h) (Or.inl ⟨rfl, ?_⟩) (by assumption) ?_; rotate_left; focus (intro w hSw; (try dsimp only at hSw); go_simp; try (with_reducible rfl))); (try simp only [Act.put, List.getElem_toArray, List.getElem_cons_succ, List.getElem_cons_zero, List.setIfInBounds_toArray, List.set_cons_zero, List.set_cons_succ])
          refine wpAnyH_ready (rs := [3, 5]) (by kernel_rfl) (by simp) ?_; refine AllReadyH.cons rfl (fun K hK => ?_) (AllReadyH.cons rfl (fun K hK => ?_) AllReadyH.nil)
          · go_simp
            go_at_call 87
            refine (l01Next_any s a n cap _ _ hS11).mono ?_
            rintro e y12 ⟨z12, rfl, -, hv12, hg12, hS12⟩
            obtain ⟨l12, u12⟩ := hv12 (by omega)
            have HR12 := Lib.hid (Four.kept HR11.out hg12 (fun e => by simp at e; omega))
            have HM12 := Lib.hid (Four.kept HM11.out hg12 (fun e => by simp at e; omega))
            have HG12 := Lib.hid (World.grownBy.trans HG11.out hg12)
            clear hg12 hv12
            refine hK.out _ _ trivial (fun hHeld2 => ?_)
            clear hHeld; rename _ => hHeld; clear hK K
            (try simp only [Act.put, List.getElem_toArray, List.getElem_cons_succ, List.getElem_cons_zero, List.setIfInBounds_toArray, List.set_cons_zero, List.set_cons_succ])
            rcases (show z12 = 0 ∨ z12 = 1 by omega) with rfl | rfl
            · refine wpAnyH_ready (rs := [5]) (by kernel_rfl) (by simp) ?_; refine AllReadyH.cons rfl (fun K hK => ?_) AllReadyH.nil
              go_simp
              have hS13 := sr_alloc hS12 (.cells #[.int .i64 1000001, .int .i64 (-1099511627776)] 2)
              have HR13 := Lib.hid (Four.kept HR12.out (World.grownBy_alloc _ (.cells #[.int .i64 1000001, .int .i64 (-1099511627776)] 2) none) (by simp))
              have HM13 := Lib.hid (Four.kept HM12.out (World.grownBy_alloc _ (.cells #[.int .i64 1000001, .int .i64 (-1099511627776)] 2) none) (by simp))
              have HG13 := Lib.hid (World.grownBy.trans HG12.out (World.grownBy_alloc _ (.cells #[.int .i64 1000001, .int .i64 (-1099511627776)] 2) _))
              have HL13 := Lib.hid (fun j hj => row_new y12 [1000001, -1099511627776] 2 j hj)
              have hq13 : y12.heap.size < (y12.alloc (.cells #[.int .i64 1000001, .int .i64 (-1099511627776)] 2)).heap.size := by simp
              have hqs13 : s < y12.heap.size := hS12.lt
              refine hK.out _ _ trivial (fun hHeld2 => ?_)
              clear hHeld; rename _ => hHeld; clear hK K
              (try simp only [Act.put, List.getElem_toArray, List.getElem_cons_succ, List.getElem_cons_zero, List.setIfInBounds_toArray, List.set_cons_zero, List.set_cons_succ])
              refine wpAnyH_ready (rs := [6]) (by kernel_rfl) (by simp) ?_; refine AllReadyH.cons rfl (fun K hK => ?_) AllReadyH.nil
              go_simp
              go_at_call 100
              refine (l01Pick_any s (y12.heap.size) 2 a n cap [1000001, -1099511627776] _ hS13 hq13 (by omega) (by simp) (by simp) HL13.out).mono ?_
              rintro e y14 ⟨z14, -, rfl, hg14, hS14⟩
              have HR14 := Lib.hid (Four.kept HR13.out hg14 (fun e => by simp at e; omega))
              have HM14 := Lib.hid (Four.kept HM13.out hg14 (fun e => by simp at e; omega))
              have HG14 := Lib.hid (World.grownBy.trans HG13.out hg14)
              clear hg14
              refine hK.out _ _ trivial (fun hHeld2 => ?_)
              clear hHeld; rename _ => hHeld; clear hK K
              (try simp only [Act.put, List.getElem_toArray, List.getElem_cons_succ, List.getElem_cons_zero, List.setIfInBounds_toArray, List.set_cons_zero, List.set_cons_succ])
              (refine wpAnyH_take (i := 8) (v := ?_) rfl (by kernel_rfl) (by kernel_rfl) (by kernel_rfl) (fun _ _ _ h => h) (Or.inl ⟨rfl, ?_⟩) (by assumption) ?_; rotate_left; focus (intro w hSw; (try dsimp only at hSw); go_simp; try (with_reducible rfl))); (try simp only [Act.put, List.getElem_toArray, List.getElem_cons_succ, List.getElem_cons_zero, List.setIfInBounds_toArray, List.set_cons_zero, List.set_cons_succ])
              obtain ⟨c0, c1, c2, c3, f0, f1, f2, f3, hb⟩ := HM14.out
              obtain ⟨d0, d1, d2, d3, g0, g1, g2, g3, hd⟩ := HR14.out
              refine wpAnyH_ready (rs := [9]) (by kernel_rfl) (by simp) ?_; refine AllReadyH.cons rfl (fun K hK => ?_) AllReadyH.nil
              go_simp
              refine hK.out _ _ trivial (fun hHeld2 => ?_)
              clear hHeld; rename _ => hHeld; clear hK K
              (try simp only [Act.put, List.getElem_toArray, List.getElem_cons_succ, List.getElem_cons_zero, List.setIfInBounds_toArray, List.set_cons_zero, List.set_cons_succ])
              refine wpAnyH_done (by kernel_rfl) ?_ _
              go_wp2
              refine bodyPost_ret (v := .agg #[.int .i64 p, .int .i64 q, .int .i64 z14, .int .i64 t]) (by simp (maxDischargeDepth := 8) [results, Try.results71, go_sem, *]) rfl ?_
              refine ⟨p, q, z14, t, rfl, ?_, ?_⟩
              · exact grown_setN (grown_setN (grown_setN (grown_setN (grown_setN HG14.out (Nat.le_of_lt hwl) _ _) (Nat.le_refl _) _ _) (Nat.le_refl _) _ _) (Nat.le_refl _) _ _) (Nat.le_refl _) _ _
              · exact sr_set (sr_set (sr_set (sr_set (sr_set hS14 _ _ _ hsl1) _ _ _ hsl) _ _ _ hsl) _ _ _ hsl) _ _ _ hsl
            · refine wpAnyH_ready (rs := [5]) (by kernel_rfl) (by simp) ?_; refine AllReadyH.cons rfl (fun K hK => ?_) AllReadyH.nil
              go_simp
              have hS13 := sr_alloc hS12 (.cells #[.int .i64 1000001, .int .i64 (-1099511627776)] 2)
              have HR13 := Lib.hid (Four.kept HR12.out (World.grownBy_alloc _ (.cells #[.int .i64 1000001, .int .i64 (-1099511627776)] 2) none) (by simp))
              have HM13 := Lib.hid (Four.kept HM12.out (World.grownBy_alloc _ (.cells #[.int .i64 1000001, .int .i64 (-1099511627776)] 2) none) (by simp))
              have HG13 := Lib.hid (World.grownBy.trans HG12.out (World.grownBy_alloc _ (.cells #[.int .i64 1000001, .int .i64 (-1099511627776)] 2) _))
              have HL13 := Lib.hid (fun j hj => row_new y12 [1000001, -1099511627776] 2 j hj)
              have hq13 : y12.heap.size < (y12.alloc (.cells #[.int .i64 1000001, .int .i64 (-1099511627776)] 2)).heap.size := by simp
              have hqs13 : s < y12.heap.size := hS12.lt
              refine hK.out _ _ trivial (fun hHeld2 => ?_)
              clear hHeld; rename _ => hHeld; clear hK K
              (try simp only [Act.put, List.getElem_toArray, List.getElem_cons_succ, List.getElem_cons_zero, List.setIfInBounds_toArray, List.set_cons_zero, List.set_cons_succ])
              refine wpAnyH_ready (rs := [6]) (by kernel_rfl) (by simp) ?_; refine AllReadyH.cons rfl (fun K hK => ?_) AllReadyH.nil
              go_simp
              go_at_call 100
              refine (l01Pick_any s (y12.heap.size) 2 a n cap [1000001, -1099511627776] _ hS13 hq13 (by omega) (by simp) (by simp) HL13.out).mono ?_
              rintro e y14 ⟨z14, -, rfl, hg14, hS14⟩
              have HR14 := Lib.hid (Four.kept HR13.out hg14 (fun e => by simp at e; omega))
              have HM14 := Lib.hid (Four.kept HM13.out hg14 (fun e => by simp at e; omega))
              have HG14 := Lib.hid (World.grownBy.trans HG13.out hg14)
              clear hg14
              refine hK.out _ _ trivial (fun hHeld2 => ?_)
              clear hHeld; rename _ => hHeld; clear hK K
              (try simp only [Act.put, List.getElem_toArray, List.getElem_cons_succ, List.getElem_cons_zero, List.setIfInBounds_toArray, List.set_cons_zero, List.set_cons_succ])
              (refine wpAnyH_take (i := 8) (v := ?_) rfl (by kernel_rfl) (by kernel_rfl) (by kernel_rfl) (fun _ _ _ h => h) (Or.inl ⟨rfl, ?_⟩) (by assumption) ?_; rotate_left; focus (intro w hSw; (try dsimp only at hSw); go_simp; try (with_reducible rfl))); (try simp only [Act.put, List.getElem_toArray, List.getElem_cons_succ, List.getElem_cons_zero, List.setIfInBounds_toArray, List.set_cons_zero, List.set_cons_succ])
              obtain ⟨c0, c1, c2, c3, f0, f1, f2, f3, hb⟩ := HM14.out
              obtain ⟨d0, d1, d2, d3, g0, g1, g2, g3, hd⟩ := HR14.out
              refine wpAnyH_ready (rs := [9]) (by kernel_rfl) (by simp) ?_; refine AllReadyH.cons rfl (fun K hK => ?_) AllReadyH.nil
              go_simp
              refine hK.out _ _ trivial (fun hHeld2 => ?_)
              clear hHeld; rename _ => hHeld; clear hK K
              (try simp only [Act.put, List.getElem_toArray, List.getElem_cons_succ, List.getElem_cons_zero, List.setIfInBounds_toArray, List.set_cons_zero, List.set_cons_succ])
              refine wpAnyH_done (by kernel_rfl) ?_ _
              go_wp2
              refine bodyPost_ret (v := .agg #[.int .i64 p, .int .i64 q, .int .i64 r, .int .i64 z14]) (by simp (maxDischargeDepth := 8) [results, Try.results71, go_sem, *]) rfl ?_
              refine ⟨p, q, r, z14, rfl, ?_, ?_⟩
              · exact grown_setN (grown_setN (grown_setN (grown_setN (grown_setN HG14.out (Nat.le_of_lt hwl) _ _) (Nat.le_refl _) _ _) (Nat.le_refl _) _ _) (Nat.le_refl _) _ _) (Nat.le_refl _) _ _
              · exact sr_set (sr_set (sr_set (sr_set (sr_set hS14 _ _ _ hsl1) _ _ _ hsl) _ _ _ hsl) _ _ _ hsl) _ _ _ hsl
          · go_simp
            have hS12 := sr_alloc hS11 (.cells #[.int .i64 1000001, .int .i64 (-1099511627776)] 2)
            have HR12 := Lib.hid (Four.kept HR11.out (World.grownBy_alloc _ (.cells #[.int .i64 1000001, .int .i64 (-1099511627776)] 2) none) (by simp))
            have HM12 := Lib.hid (Four.kept HM11.out (World.grownBy_alloc _ (.cells #[.int .i64 1000001, .int .i64 (-1099511627776)] 2) none) (by simp))
            have HG12 := Lib.hid (World.grownBy.trans HG11.out (World.grownBy_alloc _ (.cells #[.int .i64 1000001, .int .i64 (-1099511627776)] 2) _))
            have HL12 := Lib.hid (fun j hj => row_new y11 [1000001, -1099511627776] 2 j hj)
            have hq12 : y11.heap.size < (y11.alloc (.cells #[.int .i64 1000001, .int .i64 (-1099511627776)] 2)).heap.size := by simp
            have hqs12 : s < y11.heap.size := hS11.lt
            refine hK.out _ _ trivial (fun hHeld2 => ?_)
            clear hHeld; rename _ => hHeld; clear hK K
            (try simp only [Act.put, List.getElem_toArray, List.getElem_cons_succ, List.getElem_cons_zero, List.setIfInBounds_toArray, List.set_cons_zero, List.set_cons_succ])
            refine wpAnyH_ready (rs := [3]) (by kernel_rfl) (by simp) ?_; refine AllReadyH.cons rfl (fun K hK => ?_) AllReadyH.nil
            go_simp
            go_at_call 87
            refine (l01Next_any s a n cap _ _ hS12).mono ?_
            rintro e y13 ⟨z13, rfl, -, hv13, hg13, hS13⟩
            obtain ⟨l13, u13⟩ := hv13 (by omega)
            have HR13 := Lib.hid (Four.kept HR12.out hg13 (fun e => by simp at e; omega))
            have HM13 := Lib.hid (Four.kept HM12.out hg13 (fun e => by simp at e; omega))
            have HG13 := Lib.hid (World.grownBy.trans HG12.out hg13)
            have HL13 := Lib.hid (fun j hj => ((kept_cell hg13 hq12 (fun e => by simp at e; omega) j).1).trans (HL12.out j hj))
            have hq13 : y11.heap.size < y13.heap.size := Nat.lt_of_lt_of_le hq12 hg13.size
            clear hg13 hv13
            refine hK.out _ _ trivial (fun hHeld2 => ?_)
            clear hHeld; rename _ => hHeld; clear hK K
            (try simp only [Act.put, List.getElem_toArray, List.getElem_cons_succ, List.getElem_cons_zero, List.setIfInBounds_toArray, List.set_cons_zero, List.set_cons_succ])
            rcases (show z13 = 0 ∨ z13 = 1 by omega) with rfl | rfl
            · refine wpAnyH_ready (rs := [6]) (by kernel_rfl) (by simp) ?_; refine AllReadyH.cons rfl (fun K hK => ?_) AllReadyH.nil
              go_simp
              go_at_call 100
              refine (l01Pick_any s (y11.heap.size) 2 a n cap [1000001, -1099511627776] _ hS13 hq13 (by omega) (by simp) (by simp) HL13.out).mono ?_
              rintro e y14 ⟨z14, -, rfl, hg14, hS14⟩
              have HR14 := Lib.hid (Four.kept HR13.out hg14 (fun e => by simp at e; omega))
              have HM14 := Lib.hid (Four.kept HM13.out hg14 (fun e => by simp at e; omega))
              have HG14 := Lib.hid (World.grownBy.trans HG13.out hg14)
              clear hg14
              refine hK.out _ _ trivial (fun hHeld2 => ?_)
              clear hHeld; rename _ => hHeld; clear hK K
              (try simp only [Act.put, List.getElem_toArray, List.getElem_cons_succ, List.getElem_cons_zero, List.setIfInBounds_toArray, List.set_cons_zero, List.set_cons_succ])
              (refine wpAnyH_take (i := 8) (v := ?_) rfl (by kernel_rfl) (by kernel_rfl) (by kernel_rfl) (fun _ _ _ h => h) (Or.inl ⟨rfl, ?_⟩) (by assumption) ?_; rotate_left; focus (intro w hSw; (try dsimp only at hSw); go_simp; try (with_reducible rfl))); (try simp only [Act.put, List.getElem_toArray, List.getElem_cons_succ, List.getElem_cons_zero, List.setIfInBounds_toArray, List.set_cons_zero, List.set_cons_succ])
              obtain ⟨c0, c1, c2, c3, f0, f1, f2, f3, hb⟩ := HM14.out
              obtain ⟨d0, d1, d2, d3, g0, g1, g2, g3, hd⟩ := HR14.out
              refine wpAnyH_ready (rs := [9]) (by kernel_rfl) (by simp) ?_; refine AllReadyH.cons rfl (fun K hK => ?_) AllReadyH.nil
              go_simp
              refine hK.out _ _ trivial (fun hHeld2 => ?_)
              clear hHeld; rename _ => hHeld; clear hK K
              (try simp only [Act.put, List.getElem_toArray, List.getElem_cons_succ, List.getElem_cons_zero, List.setIfInBounds_toArray, List.set_cons_zero, List.set_cons_succ])
              refine wpAnyH_done (by kernel_rfl) ?_ _
              go_wp2
              refine bodyPost_ret (v := .agg #[.int .i64 p, .int .i64 q, .int .i64 z14, .int .i64 t]) (by simp (maxDischargeDepth := 8) [results, Try.results71, go_sem, *]) rfl ?_
              refine ⟨p, q, z14, t, rfl, ?_, ?_⟩
              · exact grown_setN (grown_setN (grown_setN (grown_setN (grown_setN HG14.out (Nat.le_of_lt hwl) _ _) (Nat.le_refl _) _ _) (Nat.le_refl _) _ _) (Nat.le_refl _) _ _) (Nat.le_refl _) _ _
              · exact sr_set (sr_set (sr_set (sr_set (sr_set hS14 _ _ _ hsl1) _ _ _ hsl) _ _ _ hsl) _ _ _ hsl) _ _ _ hsl
            · refine wpAnyH_ready (rs := [6]) (by kernel_rfl) (by simp) ?_; refine AllReadyH.cons rfl (fun K hK => ?_) AllReadyH.nil
              go_simp
              go_at_call 100
              refine (l01Pick_any s (y11.heap.size) 2 a n cap [1000001, -1099511627776] _ hS13 hq13 (by omega) (by simp) (by simp) HL13.out).mono ?_
              rintro e y14 ⟨z14, -, rfl, hg14, hS14⟩
              have HR14 := Lib.hid (Four.kept HR13.out hg14 (fun e => by simp at e; omega))
              have HM14 := Lib.hid (Four.kept HM13.out hg14 (fun e => by simp at e; omega))
              have HG14 := Lib.hid (World.grownBy.trans HG13.out hg14)
              clear hg14
              refine hK.out _ _ trivial (fun hHeld2 => ?_)
              clear hHeld; rename _ => hHeld; clear hK K
              (try simp only [Act.put, List.getElem_toArray, List.getElem_cons_succ, List.getElem_cons_zero, List.setIfInBounds_toArray, List.set_cons_zero, List.set_cons_succ])
              (refine wpAnyH_take (i := 8) (v := ?_) rfl (by kernel_rfl) (by kernel_rfl) (by kernel_rfl) (fun _ _ _ h => h) (Or.inl ⟨rfl, ?_⟩) (by assumption) ?_; rotate_left; focus (intro w hSw; (try dsimp only at hSw); go_simp; try (with_reducible rfl))); (try simp only [Act.put, List.getElem_toArray, List.getElem_cons_succ, List.getElem_cons_zero, List.setIfInBounds_toArray, List.set_cons_zero, List.set_cons_succ])
              obtain ⟨c0, c1, c2, c3, f0, f1, f2, f3, hb⟩ := HM14.out
              obtain ⟨d0, d1, d2, d3, g0, g1, g2, g3, hd⟩ := HR14.out
              refine wpAnyH_ready (rs := [9]) (by kernel_rfl) (by simp) ?_; refine AllReadyH.cons rfl (fun K hK => ?_) AllReadyH.nil
              go_simp
              refine hK.out _ _ trivial (fun hHeld2 => ?_)
              clear hHeld; rename _ => hHeld; clear hK K
              (try simp only [Act.put, List.getElem_toArray, List.getElem_cons_succ, List.getElem_cons_zero, List.setIfInBounds_toArray, List.set_cons_zero, List.set_cons_succ])
              refine wpAnyH_done (by kernel_rfl) ?_ _
              go_wp2
              refine bodyPost_ret (v := .agg #[.int .i64 p, .int .i64 q, .int .i64 r, .int .i64 z14]) (by simp (maxDischargeDepth := 8) [results, Try.results71, go_sem, *]) rfl ?_
              refine ⟨p, q, r, z14, rfl, ?_, ?_⟩
              · exact grown_setN (grown_setN (grown_setN (grown_setN (grown_setN HG14.out (Nat.le_of_lt hwl) _ _) (Nat.le_refl _) _ _) (Nat.le_refl _) _ _) (Nat.le_refl _) _ _) (Nat.le_refl _) _ _
              · exact sr_set (sr_set (sr_set (sr_set (sr_set hS14 _ _ _ hsl1) _ _ _ hsl) _ _ _ hsl) _ _ _ hsl) _ _ _ hsl
      · go_simp
        have hS11 := sr_alloc hSd (.cells #[.int .i64 1000001, .int .i64 (-1099511627776)] 2)
        have HR11 := Lib.hid (Four.kept HRd.out (World.grownBy_alloc _ (.cells #[.int .i64 1000001, .int .i64 (-1099511627776)] 2) none) (by simp))
        have HM11 := Lib.hid (Four.kept HMd.out (World.grownBy_alloc _ (.cells #[.int .i64 1000001, .int .i64 (-1099511627776)] 2) none) (by simp))
        have HG11 := Lib.hid (World.grownBy.trans HGd.out (World.grownBy_alloc _ (.cells #[.int .i64 1000001, .int .i64 (-1099511627776)] 2) _))
        have HL11 := Lib.hid (fun j hj => row_new w3.drew [1000001, -1099511627776] 2 j hj)
        have hq11 : w3.drew.heap.size < (w3.drew.alloc (.cells #[.int .i64 1000001, .int .i64 (-1099511627776)] 2)).heap.size := by simp
        have hqs11 : s < w3.drew.heap.size := hSd.lt
        refine hK.out _ _ trivial (fun hHeld2 => ?_)
        clear hHeld; rename _ => hHeld; clear hK K
        (try simp only [Act.put, List.getElem_toArray, List.getElem_cons_succ, List.getElem_cons_zero, List.setIfInBounds_toArray, List.set_cons_zero, List.set_cons_succ])
        refine wpAnyH_ready (rs := [1]) (by kernel_rfl) (by simp) ?_; refine AllReadyH.cons rfl (fun K hK => ?_) AllReadyH.nil
        go_simp
        go_at_call 87
        refine (l01Next_any s a n cap _ _ hS11).mono ?_
        rintro e y12 ⟨z12, rfl, -, hv12, hg12, hS12⟩
        obtain ⟨l12, u12⟩ := hv12 (by omega)
        have HR12 := Lib.hid (Four.kept HR11.out hg12 (fun e => by simp at e; omega))
        have HM12 := Lib.hid (Four.kept HM11.out hg12 (fun e => by simp at e; omega))
        have HG12 := Lib.hid (World.grownBy.trans HG11.out hg12)
        have HL12 := Lib.hid (fun j hj => ((kept_cell hg12 hq11 (fun e => by simp at e; omega) j).1).trans (HL11.out j hj))
        have hq12 : w3.drew.heap.size < y12.heap.size := Nat.lt_of_lt_of_le hq11 hg12.size
        clear hg12 hv12
        refine hK.out _ _ trivial (fun hHeld2 => ?_)
        clear hHeld; rename _ => hHeld; clear hK K
        (try simp only [Act.put, List.getElem_toArray, List.getElem_cons_succ, List.getElem_cons_zero, List.setIfInBounds_toArray, List.set_cons_zero, List.set_cons_succ])
        rcases (show z12 = 0 ∨ z12 = 1 by omega) with rfl | rfl
        · (refine wpAnyH_take (i := 7) (v := ?_) rfl (by kernel_rfl) (by kernel_rfl) (by kernel_rfl) (fun _ _ _ h => h) (Or.inl ⟨rfl, ?_⟩) (by assumption) ?_; rotate_left; focus (intro w hSw; (try dsimp only at hSw); go_simp; try (with_reducible rfl))); (try simp only [Act.put, List.getElem_toArray, List.getElem_cons_succ, List.getElem_cons_zero, List.setIfInBounds_toArray, List.set_cons_zero, List.set_cons_succ])
          refine wpAnyH_ready (rs := [3]) (by kernel_rfl) (by simp) ?_; refine AllReadyH.cons rfl (fun K hK => ?_) AllReadyH.nil
          go_simp
          go_at_call 87
          refine (l01Next_any s a n cap _ _ hS12).mono ?_
          rintro e y13 ⟨z13, rfl, -, hv13, hg13, hS13⟩
          obtain ⟨l13, u13⟩ := hv13 (by omega)
          have HR13 := Lib.hid (Four.kept HR12.out hg13 (fun e => by simp at e; omega))
          have HM13 := Lib.hid (Four.kept HM12.out hg13 (fun e => by simp at e; omega))
          have HG13 := Lib.hid (World.grownBy.trans HG12.out hg13)
          have HL13 := Lib.hid (fun j hj => ((kept_cell hg13 hq12 (fun e => by simp at e; omega) j).1).trans (HL12.out j hj))
          have hq13 : w3.drew.heap.size < y13.heap.size := Nat.lt_of_lt_of_le hq12 hg13.size
          clear hg13 hv13
          refine hK.out _ _ trivial (fun hHeld2 => ?_)
          clear hHeld; rename _ => hHeld; clear hK K
          (try simp only [Act.put, List.getElem_toArray, List.getElem_cons_succ, List.getElem_cons_zero, List.setIfInBounds_toArray, List.set_cons_zero, List.set_cons_succ])
          rcases (show z13 = 0 ∨ z13 = 1 by omega) with rfl | rfl
          · refine wpAnyH_ready (rs := [6]) (by kernel_rfl) (by simp) ?_; refine AllReadyH.cons rfl (fun K hK => ?_) AllReadyH.nil
            go_simp
            go_at_call 100
            refine (l01Pick_any s (w3.drew.heap.size) 2 a n cap [1000001, -1099511627776] _ hS13 hq13 (by omega) (by simp) (by simp) HL13.out).mono ?_
            rintro e y14 ⟨z14, -, rfl, hg14, hS14⟩
            have HR14 := Lib.hid (Four.kept HR13.out hg14 (fun e => by simp at e; omega))
            have HM14 := Lib.hid (Four.kept HM13.out hg14 (fun e => by simp at e; omega))
            have HG14 := Lib.hid (World.grownBy.trans HG13.out hg14)
            clear hg14
            refine hK.out _ _ trivial (fun hHeld2 => ?_)
            clear hHeld; rename _ => hHeld; clear hK K
            (try simp only [Act.put, List.getElem_toArray, List.getElem_cons_succ, List.getElem_cons_zero, List.setIfInBounds_toArray, List.set_cons_zero, List.set_cons_succ])
            (refine wpAnyH_take (i := 8) (v := ?_) rfl (by kernel_rfl) (by kernel_rfl) (by kernel_rfl) (fun _ _ _ h => h) (Or.inl ⟨rfl, ?_⟩) (by assumption) ?_; rotate_left; focus (intro w hSw; (try dsimp only at hSw); go_simp; try (with_reducible rfl))); (try simp only [Act.put, List.getElem_toArray, List.getElem_cons_succ, List.getElem_cons_zero, List.setIfInBounds_toArray, List.set_cons_zero, List.set_cons_succ])
            obtain ⟨c0, c1, c2, c3, f0, f1, f2, f3, hb⟩ := HM14.out
            obtain ⟨d0, d1, d2, d3, g0, g1, g2, g3, hd⟩ := HR14.out
            refine wpAnyH_ready (rs := [9]) (by kernel_rfl) (by simp) ?_; refine AllReadyH.cons rfl (fun K hK => ?_) AllReadyH.nil
            go_simp
            refine hK.out _ _ trivial (fun hHeld2 => ?_)
            clear hHeld; rename _ => hHeld; clear hK K
            (try simp only [Act.put, List.getElem_toArray, List.getElem_cons_succ, List.getElem_cons_zero, List.setIfInBounds_toArray, List.set_cons_zero, List.set_cons_succ])
            refine wpAnyH_done (by kernel_rfl) ?_ _
            go_wp2
            refine bodyPost_ret (v := .agg #[.int .i64 z14, .int .i64 q, .int .i64 r, .int .i64 t]) (by simp (maxDischargeDepth := 8) [results, Try.results71, go_sem, *]) rfl ?_
            refine ⟨z14, q, r, t, rfl, ?_, ?_⟩
            · exact grown_setN (grown_setN (grown_setN (grown_setN (grown_setN HG14.out (Nat.le_of_lt hwl) _ _) (Nat.le_refl _) _ _) (Nat.le_refl _) _ _) (Nat.le_refl _) _ _) (Nat.le_refl _) _ _
            · exact sr_set (sr_set (sr_set (sr_set (sr_set hS14 _ _ _ hsl1) _ _ _ hsl) _ _ _ hsl) _ _ _ hsl) _ _ _ hsl
          · refine wpAnyH_ready (rs := [6]) (by kernel_rfl) (by simp) ?_; refine AllReadyH.cons rfl (fun K hK => ?_) AllReadyH.nil
            go_simp
            go_at_call 100
            refine (l01Pick_any s (w3.drew.heap.size) 2 a n cap [1000001, -1099511627776] _ hS13 hq13 (by omega) (by simp) (by simp) HL13.out).mono ?_
            rintro e y14 ⟨z14, -, rfl, hg14, hS14⟩
            have HR14 := Lib.hid (Four.kept HR13.out hg14 (fun e => by simp at e; omega))
            have HM14 := Lib.hid (Four.kept HM13.out hg14 (fun e => by simp at e; omega))
            have HG14 := Lib.hid (World.grownBy.trans HG13.out hg14)
            clear hg14
            refine hK.out _ _ trivial (fun hHeld2 => ?_)
            clear hHeld; rename _ => hHeld; clear hK K
            (try simp only [Act.put, List.getElem_toArray, List.getElem_cons_succ, List.getElem_cons_zero, List.setIfInBounds_toArray, List.set_cons_zero, List.set_cons_succ])
            (refine wpAnyH_take (i := 8) (v := ?_) rfl (by kernel_rfl) (by kernel_rfl) (by kernel_rfl) (fun _ _ _ h => h) (Or.inl ⟨rfl, ?_⟩) (by assumption) ?_; rotate_left; focus (intro w hSw; (try dsimp only at hSw); go_simp; try (with_reducible rfl))); (try simp only [Act.put, List.getElem_toArray, List.getElem_cons_succ, List.getElem_cons_zero, List.setIfInBounds_toArray, List.set_cons_zero, List.set_cons_succ])
            obtain ⟨c0, c1, c2, c3, f0, f1, f2, f3, hb⟩ := HM14.out
            obtain ⟨d0, d1, d2, d3, g0, g1, g2, g3, hd⟩ := HR14.out
            refine wpAnyH_ready (rs := [9]) (by kernel_rfl) (by simp) ?_; refine AllReadyH.cons rfl (fun K hK => ?_) AllReadyH.nil
            go_simp
            refine hK.out _ _ trivial (fun hHeld2 => ?_)
            clear hHeld; rename _ => hHeld; clear hK K
            (try simp only [Act.put, List.getElem_toArray, List.getElem_cons_succ, List.getElem_cons_zero, List.setIfInBounds_toArray, List.set_cons_zero, List.set_cons_succ])
            refine wpAnyH_done (by kernel_rfl) ?_ _
            go_wp2
            refine bodyPost_ret (v := .agg #[.int .i64 p, .int .i64 z14, .int .i64 r, .int .i64 t]) (by simp (maxDischargeDepth := 8) [results, Try.results71, go_sem, *]) rfl ?_
            refine ⟨p, z14, r, t, rfl, ?_, ?_⟩
            · exact grown_setN (grown_setN (grown_setN (grown_setN (grown_setN HG14.out (Nat.le_of_lt hwl) _ _) (Nat.le_refl _) _ _) (Nat.le_refl _) _ _) (Nat.le_refl _) _ _) (Nat.le_refl _) _ _
            · exact sr_set (sr_set (sr_set (sr_set (sr_set hS14 _ _ _ hsl1) _ _ _ hsl) _ _ _ hsl) _ _ _ hsl) _ _ _ hsl
        · (refine wpAnyH_take (i := 7) (v := ?_) rfl (by kernel_rfl) (by kernel_rfl) (by kernel_rfl) (fun _ _ _ h => h) (Or.inl ⟨rfl, ?_⟩) (by assumption) ?_; rotate_left; focus (intro w hSw; (try dsimp only at hSw); go_simp; try (with_reducible rfl))); (try simp only [Act.put, List.getElem_toArray, List.getElem_cons_succ, List.getElem_cons_zero, List.setIfInBounds_toArray, List.set_cons_zero, List.set_cons_succ])
          refine wpAnyH_ready (rs := [3]) (by kernel_rfl) (by simp) ?_; refine AllReadyH.cons rfl (fun K hK => ?_) AllReadyH.nil
          go_simp
          go_at_call 87
          refine (l01Next_any s a n cap _ _ hS12).mono ?_
          rintro e y13 ⟨z13, rfl, -, hv13, hg13, hS13⟩
          obtain ⟨l13, u13⟩ := hv13 (by omega)
          have HR13 := Lib.hid (Four.kept HR12.out hg13 (fun e => by simp at e; omega))
          have HM13 := Lib.hid (Four.kept HM12.out hg13 (fun e => by simp at e; omega))
          have HG13 := Lib.hid (World.grownBy.trans HG12.out hg13)
          have HL13 := Lib.hid (fun j hj => ((kept_cell hg13 hq12 (fun e => by simp at e; omega) j).1).trans (HL12.out j hj))
          have hq13 : w3.drew.heap.size < y13.heap.size := Nat.lt_of_lt_of_le hq12 hg13.size
          clear hg13 hv13
          refine hK.out _ _ trivial (fun hHeld2 => ?_)
          clear hHeld; rename _ => hHeld; clear hK K
          (try simp only [Act.put, List.getElem_toArray, List.getElem_cons_succ, List.getElem_cons_zero, List.setIfInBounds_toArray, List.set_cons_zero, List.set_cons_succ])
          rcases (show z13 = 0 ∨ z13 = 1 by omega) with rfl | rfl
          · refine wpAnyH_ready (rs := [6]) (by kernel_rfl) (by simp) ?_; refine AllReadyH.cons rfl (fun K hK => ?_) AllReadyH.nil
            go_simp
            go_at_call 100
            refine (l01Pick_any s (w3.drew.heap.size) 2 a n cap [1000001, -1099511627776] _ hS13 hq13 (by omega) (by simp) (by simp) HL13.out).mono ?_
            rintro e y14 ⟨z14, -, rfl, hg14, hS14⟩
            have HR14 := Lib.hid (Four.kept HR13.out hg14 (fun e => by simp at e; omega))
            have HM14 := Lib.hid (Four.kept HM13.out hg14 (fun e => by simp at e; omega))
            have HG14 := Lib.hid (World.grownBy.trans HG13.out hg14)
            clear hg14
            refine hK.out _ _ trivial (fun hHeld2 => ?_)
            clear hHeld; rename _ => hHeld; clear hK K
            (try simp only [Act.put, List.getElem_toArray, List.getElem_cons_succ, List.getElem_cons_zero, List.setIfInBounds_toArray, List.set_cons_zero, List.set_cons_succ])
            (refine wpAnyH_take (i := 8) (v := ?_) rfl (by kernel_rfl) (by kernel_rfl) (by kernel_rfl) (fun _ _ _ h => h) (Or.inl ⟨rfl, ?_⟩) (by assumption) ?_; rotate_left; focus (intro w hSw; (try dsimp only at hSw); go_simp; try (with_reducible rfl))); (try simp only [Act.put, List.getElem_toArray, List.getElem_cons_succ, List.getElem_cons_zero, List.setIfInBounds_toArray, List.set_cons_zero, List.set_cons_succ])
            obtain ⟨c0, c1, c2, c3, f0, f1, f2, f3, hb⟩ := HM14.out
            obtain ⟨d0, d1, d2, d3, g0, g1, g2, g3, hd⟩ := HR14.out
            refine wpAnyH_ready (rs := [9]) (by kernel_rfl) (by simp) ?_; refine AllReadyH.cons rfl (fun K hK => ?_) AllReadyH.nil
            go_simp
            refine hK.out _ _ trivial (fun hHeld2 => ?_)
            clear hHeld; rename _ => hHeld; clear hK K
            (try simp only [Act.put, List.getElem_toArray, List.getElem_cons_succ, List.getElem_cons_zero, List.setIfInBounds_toArray, List.set_cons_zero, List.set_cons_succ])
            refine wpAnyH_done (by kernel_rfl) ?_ _
            go_wp2
            refine bodyPost_ret (v := .agg #[.int .i64 p, .int .i64 q, .int .i64 z14, .int .i64 t]) (by simp (maxDischargeDepth := 8) [results, Try.results71, go_sem, *]) rfl ?_
            refine ⟨p, q, z14, t, rfl, ?_, ?_⟩
            · exact grown_setN (grown_setN (grown_setN (grown_setN (grown_setN HG14.out (Nat.le_of_lt hwl) _ _) (Nat.le_refl _) _ _) (Nat.le_refl _) _ _) (Nat.le_refl _) _ _) (Nat.le_refl _) _ _
            · exact sr_set (sr_set (sr_set (sr_set (sr_set hS14 _ _ _ hsl1) _ _ _ hsl) _ _ _ hsl) _ _ _ hsl) _ _ _ hsl
          · refine wpAnyH_ready (rs := [6]) (by kernel_rfl) (by simp) ?_; refine AllReadyH.cons rfl (fun K hK => ?_) AllReadyH.nil
            go_simp
            go_at_call 100
            refine (l01Pick_any s (w3.drew.heap.size) 2 a n cap [1000001, -1099511627776] _ hS13 hq13 (by omega) (by simp) (by simp) HL13.out).mono ?_
            rintro e y14 ⟨z14, -, rfl, hg14, hS14⟩
            have HR14 := Lib.hid (Four.kept HR13.out hg14 (fun e => by simp at e; omega))
            have HM14 := Lib.hid (Four.kept HM13.out hg14 (fun e => by simp at e; omega))
            have HG14 := Lib.hid (World.grownBy.trans HG13.out hg14)
            clear hg14
            refine hK.out _ _ trivial (fun hHeld2 => ?_)
            clear hHeld; rename _ => hHeld; clear hK K
            (try simp only [Act.put, List.getElem_toArray, List.getElem_cons_succ, List.getElem_cons_zero, List.setIfInBounds_toArray, List.set_cons_zero, List.set_cons_succ])
            (refine wpAnyH_take (i := 8) (v := ?_) rfl (by kernel_rfl) (by kernel_rfl) (by kernel_rfl) (fun _ _ _ h => h) (Or.inl ⟨rfl, ?_⟩) (by assumption) ?_; rotate_left; focus (intro w hSw; (try dsimp only at hSw); go_simp; try (with_reducible rfl))); (try simp only [Act.put, List.getElem_toArray, List.getElem_cons_succ, List.getElem_cons_zero, List.setIfInBounds_toArray, List.set_cons_zero, List.set_cons_succ])
            obtain ⟨c0, c1, c2, c3, f0, f1, f2, f3, hb⟩ := HM14.out
            obtain ⟨d0, d1, d2, d3, g0, g1, g2, g3, hd⟩ := HR14.out
            refine wpAnyH_ready (rs := [9]) (by kernel_rfl) (by simp) ?_; refine AllReadyH.cons rfl (fun K hK => ?_) AllReadyH.nil
            go_simp
            refine hK.out _ _ trivial (fun hHeld2 => ?_)
            clear hHeld; rename _ => hHeld; clear hK K
            (try simp only [Act.put, List.getElem_toArray, List.getElem_cons_succ, List.getElem_cons_zero, List.setIfInBounds_toArray, List.set_cons_zero, List.set_cons_succ])
            refine wpAnyH_done (by kernel_rfl) ?_ _
            go_wp2
            refine bodyPost_ret (v := .agg #[.int .i64 p, .int .i64 q, .int .i64 r, .int .i64 z14]) (by simp (maxDischargeDepth := 8) [results, Try.results71, go_sem, *]) rfl ?_
            refine ⟨p, q, r, z14, rfl, ?_, ?_⟩
            · exact grown_setN (grown_setN (grown_setN (grown_setN (grown_setN HG14.out (Nat.le_of_lt hwl) _ _) (Nat.le_refl _) _ _) (Nat.le_refl _) _ _) (Nat.le_refl _) _ _) (Nat.le_refl _) _ _
            · exact sr_set (sr_set (sr_set (sr_set (sr_set hS14 _ _ _ hsl1) _ _ _ hsl) _ _ _ hsl) _ _ _ hsl) _ _ _ hsl
    · go_wp2
      refine bodyPost_ret (v := .agg #[.int .i64 p, .int .i64 q, .int .i64 r, .int .i64 t]) (by simp (maxDischargeDepth := 8) [results, Try.results71, go_sem, *]) rfl ?_
      exact ⟨p, q, r, t, rfl, grown_setN (grown_setN (grown_setN (grown_setN G3.out (Nat.le_refl _) _ _) (Nat.le_refl _) _ _) (Nat.le_refl _) _ _) (Nat.le_refl _) _ _, sr_set (sr_set (sr_set (sr_set hs3 _ _ _ hsl) _ _ _ hsl) _ _ _ hsl) _ _ _ hsl⟩
end Go.Proofs.Ytoenlpkphekbnaa
