/-
  The model's Draw functions of several points (own work).
-/
import Derived.Test.YtoenlpkphekbnaaDrw5
namespace Go.Proofs.Ytoenlpkphekbnaa
open Go.ChangeShapes Go.WideShapes Go.ChangeAt Go.RowKit
set_option linter.unusedVariables false
set_option maxRecDepth 100000
set_option linter.unusedSimpArgs false
set_option maxRecDepth 100000

theorem grown_drew' (w : World) (row : Option Nat) : w.grownBy w.drew row := ⟨rfl, rfl, rfl, Nat.le_refl _, fun _ _ _ => rfl⟩
theorem sr_drew' {w : World} {s : Nat} {a : Option Addr} {n cap : Nat} (h : Sr w s a n cap) : Sr w.drew s a n cap := h.kept (grown_drew' w none) (fun k e => by cases e)
set_option maxHeartbeats 1600000 in
theorem DrawAreaOf_any (a : Option Addr) (n cap : Nat) (w : World) (hn : n ≤ 9223372036854775807) (hb : Byt w w.heap.size a n) :
    Calls Try.prog 10 #[.slice a n cap] w fun e w' => ∃ x0 y0 x1 y1 x2 y2 : Int, e = .returned (.tuple #[.agg #[.int .i64 x0, .int .i64 y0], .agg #[.int .i64 x1, .int .i64 y1], .agg #[.int .i64 x2, .int .i64 y2]]) ∧ Below w.heap.size w w' := by
  have HB := Lib.hid hb
  clear hb
  go_enter Try.func10, Try.ntmps10
  go_wp2_with fail
  go_at_call 72
  have hb3 := (((HB.out.alloc (.cells #[.int .i64 0, .int .i64 0] 30)).alloc (.cells #[.int .i64 0, .int .i64 0] 30)).alloc (.cells #[.int .i64 0, .int .i64 0] 30))
  refine (l01From_any a n cap _ hn hb3).mono ?_
  clear hb3
  rintro e w1 ⟨rfl, hb1, hs1⟩
  have a0 : w.grownBy (w.alloc (.cells #[.int .i64 0, .int .i64 0] 30)) none := World.grownBy_alloc _ _ _
  have a1 : (w.alloc (.cells #[.int .i64 0, .int .i64 0] 30)).grownBy ((w.alloc (.cells #[.int .i64 0, .int .i64 0] 30)).alloc (.cells #[.int .i64 0, .int .i64 0] 30)) none := World.grownBy_alloc _ _ _
  have a2 : ((w.alloc (.cells #[.int .i64 0, .int .i64 0] 30)).alloc (.cells #[.int .i64 0, .int .i64 0] 30)).grownBy (((w.alloc (.cells #[.int .i64 0, .int .i64 0] 30)).alloc (.cells #[.int .i64 0, .int .i64 0] 30)).alloc (.cells #[.int .i64 0, .int .i64 0] 30)) none := World.grownBy_alloc _ _ _
  have HR0 := Lib.hid ((((two_new w (.int .i64 0) (.int .i64 0) 30).kept a1 (by simp)).kept a2 (by simp)).kept (grown_of_below hb1 none) (by simp))
  have HR1 := Lib.hid (((two_new (w.alloc (.cells #[.int .i64 0, .int .i64 0] 30)) (.int .i64 0) (.int .i64 0) 30).kept a2 (by simp)).kept (grown_of_below hb1 none) (by simp))
  have HR2 := Lib.hid ((two_new ((w.alloc (.cells #[.int .i64 0, .int .i64 0] 30)).alloc (.cells #[.int .i64 0, .int .i64 0] 30)) (.int .i64 0) (.int .i64 0) 30).kept (grown_of_below hb1 none) (by simp))
  have G1 := Lib.hid (grown_weaken (((a0.trans a1).trans a2).trans (grown_of_below hb1 none)) (some (w.heap.size + 1 + 1 + 1)))
  have hz1 := hb1.size
  simp only [World.size_alloc] at hs1 HR1 HR2 hz1 ⊢
  clear hb1 a0 a1 a2
  obtain ⟨s, hs⟩ : ∃ s, w.heap.size + 1 + 1 + 1 = s := ⟨_, rfl⟩
  simp only [hs] at hs1 G1 hz1 ⊢
  go_wp2_with fail
  go_at_call 78
  refine (l01Spoil_any _ a n cap _ hs1).mono ?_
  rintro e w2 ⟨x0, y0, rfl, hg2, hs2⟩
  have HR0b := Lib.hid (HR0.out.kept hg2 (fun e => by simp at e; omega))
  have HR1b := Lib.hid (HR1.out.kept hg2 (fun e => by simp at e; omega))
  have HR2b := Lib.hid (HR2.out.kept hg2 (fun e => by simp at e; omega))
  have G2 := Lib.hid (G1.out.trans hg2)
  have hz2 := hg2.size
  clear hg2 hs1 HR0 HR1 HR2
  have ha2 := World.grownBy_alloc w2 (.cells #[.int .i64 x0, .int .i64 y0] 30) none
  go_wp2_with fail
  go_at_call 78
  refine (l01Spoil_any _ a n cap _ (sr_alloc hs2 _)).mono ?_
  have hsl2 := hs2.lt
  rintro e w3 ⟨x1, y1, rfl, hg3, hs3⟩
  have HA3 := Lib.hid ((two_new w2 (.int .i64 x0) (.int .i64 y0) 30).kept hg3 (fun e => by simp at e; omega))
  have HR03 := Lib.hid ((HR0b.out.kept ha2 (by simp)).kept hg3 (fun e => by simp at e; omega))
  have HR13 := Lib.hid ((HR1b.out.kept ha2 (by simp)).kept hg3 (fun e => by simp at e; omega))
  have HR23 := Lib.hid ((HR2b.out.kept ha2 (by simp)).kept hg3 (fun e => by simp at e; omega))
  have G3 := Lib.hid ((G2.out.trans (grown_weaken ha2 _)).trans hg3)
  have hz3 := hg3.size
  rw [World.size_alloc] at hz3
  clear hg3 hs2 HR0b HR1b HR2b ha2
  have ha3 := World.grownBy_alloc w3 (.cells #[.int .i64 x1, .int .i64 y1] 30) none
  have hsl3 := hs3.lt
  have HA4 := Lib.hid ((HA3.out.kept ha3 (by simp)).kept (grown_drew' _ none) (by simp))
  have HB4 := Lib.hid ((two_new w3 (.int .i64 x1) (.int .i64 y1) 30).kept (grown_drew' _ none) (by simp))
  have HR04 := Lib.hid ((HR03.out.kept ha3 (by simp)).kept (grown_drew' _ none) (by simp))
  have HR14 := Lib.hid ((HR13.out.kept ha3 (by simp)).kept (grown_drew' _ none) (by simp))
  have HR24 := Lib.hid ((HR23.out.kept ha3 (by simp)).kept (grown_drew' _ none) (by simp))
  have G4 := Lib.hid ((G3.out.trans (grown_weaken ha3 _)).trans (grown_drew' _ _))
  have hs4 := sr_drew' (sr_alloc hs3 (.cells #[.int .i64 x1, .int .i64 y1] 30))
  go_wp2_with fail
  refine wp_region_held_drew (S := fun W' => W'.cell? ⟨w2.heap.size, 0, none⟩ = some (.int .i64 x0) ∧ W'.cell? ⟨w2.heap.size, 1, none⟩ = some (.int .i64 y0) ∧ W'.cell? ⟨w3.heap.size, 0, none⟩ = some (.int .i64 x1) ∧ W'.cell? ⟨w3.heap.size, 1, none⟩ = some (.int .i64 y1)) (by kernel_rfl) ⟨HA4.out.1, HA4.out.2.1, HB4.out.1, HB4.out.2.1⟩ (fun hHeld => ?_)
  (refine wpAnyH_take (i := 0) (v := ?_) rfl (by kernel_rfl) (by kernel_rfl) (by kernel_rfl) (fun _ _ _ h => h) (Or.inl ⟨rfl, ?_⟩) (by assumption) ?_; rotate_left; focus (intro w hSw; (try dsimp only at hSw); go_simp; try (with_reducible rfl))); (try simp only [Act.put, List.getElem_toArray, List.getElem_cons_succ, List.getElem_cons_zero, List.setIfInBounds_toArray, List.set_cons_zero, List.set_cons_succ])
  (refine wpAnyH_take (i := 1) (v := ?_) rfl (by kernel_rfl) (by kernel_rfl) (by kernel_rfl) (fun _ _ _ h => h) (Or.inl ⟨rfl, ?_⟩) (by assumption) ?_; rotate_left; focus (intro w hSw; (try dsimp only at hSw); go_simp; try (with_reducible rfl))); (try simp only [Act.put, List.getElem_toArray, List.getElem_cons_succ, List.getElem_cons_zero, List.setIfInBounds_toArray, List.set_cons_zero, List.set_cons_succ])
  (refine wpAnyH_take (i := 2) (v := ?_) rfl (by kernel_rfl) (by kernel_rfl) (by kernel_rfl) (fun _ _ _ h => h) (Or.inl ⟨rfl, ?_⟩) (by assumption) ?_; rotate_left; focus (intro w hSw; (try dsimp only at hSw); go_simp; try (with_reducible rfl))); (try simp only [Act.put, List.getElem_toArray, List.getElem_cons_succ, List.getElem_cons_zero, List.setIfInBounds_toArray, List.set_cons_zero, List.set_cons_succ])
  refine wpAnyH_ready (rs := [3]) (by kernel_rfl) (by simp) ?_; refine AllReadyH.cons rfl (fun K hK => ?_) AllReadyH.nil
  go_simp
  go_at_call 78
  refine (l01Spoil_any _ a n cap _ hs4).mono ?_
  rintro e w5 ⟨x2, y2, rfl, hg5, hs5⟩
  have HA5 := Lib.hid (HA4.out.kept hg5 (fun e => by simp at e; omega))
  have HB5 := Lib.hid (HB4.out.kept hg5 (fun e => by simp at e; omega))
  have HR05 := Lib.hid (HR04.out.kept hg5 (fun e => by simp at e; omega))
  have HR15 := Lib.hid (HR14.out.kept hg5 (fun e => by simp at e; omega))
  have HR25 := Lib.hid (HR24.out.kept hg5 (fun e => by simp at e; omega))
  have G5 := Lib.hid (G4.out.trans hg5)
  refine hK.out _ _ ⟨HA5.out.1, HA5.out.2.1, HB5.out.1, HB5.out.2.1⟩ (fun hHeld2 => ?_)
  clear hHeld; rename _ => hHeld; clear hK K
  (try simp only [Act.put, List.getElem_toArray, List.getElem_cons_succ, List.getElem_cons_zero, List.setIfInBounds_toArray, List.set_cons_zero, List.set_cons_succ])
  obtain ⟨c0, c1, f0, f1, hb⟩ := HR05.out
  obtain ⟨d0, d1, g0, g1, hd⟩ := HR15.out
  obtain ⟨e0, e1, h0, h1, he⟩ := HR25.out
  clear hg5 hs5 hs4
  have HA6 := Lib.hid (HA5.out.kept (grown_setB (grown_setB (World.grownBy.refl _ (some (w.heap.size))) 0 (.int .i64 x0)) 1 (.int .i64 y0)) (by simp; omega))
  have HB6 := Lib.hid (HB5.out.kept (grown_setB (grown_setB (World.grownBy.refl _ (some (w.heap.size))) 0 (.int .i64 x0)) 1 (.int .i64 y0)) (by simp; omega))
  refine wpAnyH_ready (rs := [4]) (by kernel_rfl) (by simp) ?_; refine AllReadyH.cons rfl (fun K hK => ?_) AllReadyH.nil
  go_simp
  refine hK.out _ _ ⟨HA6.out.1, HA6.out.2.1, HB6.out.1, HB6.out.2.1⟩ (fun hHeld2 => ?_)
  clear hHeld; rename _ => hHeld; clear hK K
  (try simp only [Act.put, List.getElem_toArray, List.getElem_cons_succ, List.getElem_cons_zero, List.setIfInBounds_toArray, List.set_cons_zero, List.set_cons_succ])
  have HA7 := Lib.hid (HA6.out.kept (grown_setB (grown_setB (World.grownBy.refl _ (some (w.heap.size + 1))) 0 (.int .i64 x1)) 1 (.int .i64 y1)) (by simp; omega))
  have HB7 := Lib.hid (HB6.out.kept (grown_setB (grown_setB (World.grownBy.refl _ (some (w.heap.size + 1))) 0 (.int .i64 x1)) 1 (.int .i64 y1)) (by simp; omega))
  refine wpAnyH_ready (rs := [5]) (by kernel_rfl) (by simp) ?_; refine AllReadyH.cons rfl (fun K hK => ?_) AllReadyH.nil
  go_simp
  refine hK.out _ _ ⟨HA7.out.1, HA7.out.2.1, HB7.out.1, HB7.out.2.1⟩ (fun hHeld2 => ?_)
  clear hHeld; rename _ => hHeld; clear hK K
  (try simp only [Act.put, List.getElem_toArray, List.getElem_cons_succ, List.getElem_cons_zero, List.setIfInBounds_toArray, List.set_cons_zero, List.set_cons_succ])
  have HA8 := Lib.hid (HA7.out.kept (grown_setB (grown_setB (World.grownBy.refl _ (some (w.heap.size + 1 + 1))) 0 (.int .i64 x2)) 1 (.int .i64 y2)) (by simp; omega))
  have HB8 := Lib.hid (HB7.out.kept (grown_setB (grown_setB (World.grownBy.refl _ (some (w.heap.size + 1 + 1))) 0 (.int .i64 x2)) 1 (.int .i64 y2)) (by simp; omega))
  refine wpAnyH_ready (rs := [6]) (by kernel_rfl) (by simp) ?_; refine AllReadyH.cons rfl (fun K hK => ?_) AllReadyH.nil
  go_simp
  refine hK.out _ _ ⟨HA8.out.1, HA8.out.2.1, HB8.out.1, HB8.out.2.1⟩ (fun hHeld2 => ?_)
  clear hHeld; rename _ => hHeld; clear hK K
  (try simp only [Act.put, List.getElem_toArray, List.getElem_cons_succ, List.getElem_cons_zero, List.setIfInBounds_toArray, List.set_cons_zero, List.set_cons_succ])
  refine wpAnyH_done (by kernel_rfl) ?_ _
  go_wp2
  refine bodyPost_ret (v := .tuple #[.agg #[.int .i64 x0, .int .i64 y0], .agg #[.int .i64 x1, .int .i64 y1], .agg #[.int .i64 x2, .int .i64 y2]]) (by simp (maxDischargeDepth := 8) [results, Try.results10, go_sem, *]) rfl ?_
  refine ⟨x0, y0, x1, y1, x2, y2, rfl, below_of_grown (s := s) ?_ (Nat.le_refl _) (by omega)⟩
  exact grown_setN (grown_setN (grown_setN (grown_setN (grown_setN (grown_setN G5.out (Nat.le_refl _) _ _) (Nat.le_refl _) _ _) (by omega) _ _) (by omega) _ _) (by omega) _ _) (by omega) _ _
end Go.Proofs.Ytoenlpkphekbnaa
