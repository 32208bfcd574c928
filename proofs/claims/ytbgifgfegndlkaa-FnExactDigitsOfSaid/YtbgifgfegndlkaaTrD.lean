/-
  GcdOfTriple in the program and in the model (own work).
-/
import Derived.Test.YtbgifgfegndlkaaTrX
import Derived.Test.YtbgifgfegndlkaaGcd
namespace Go.Proofs.Ytbgifgfegndlkaa
open Go.ChangeShapes Go.WideShapes Go.ChangeAt Go.RowKit
set_option linter.unusedVariables false
set_option linter.unusedSimpArgs false
set_option maxRecDepth 100000

def gcK (a b c : Int) : Int := if isTr a b c = true then 0 else 1
def gcV (a b c : Int) : Int := if isTr a b c = true then gcdI (gcdI a b) c else 0
theorem gcd_bd {a b c : Int} (h : isTr a b c = true) : Tn a ∧ Tn b ∧ Tn c ∧ Tn (gcdI a b) := by
  obtain ⟨ha, hb, hc, _⟩ := isTr_parts h
  have h0 : 0 ≤ gcdI a b := by unfold gcdI; omega
  have h1 : gcdI a b ≤ 1000000 := by
    unfold gcdI
    by_cases e : a = 0
    · rw [e]
      simp
      omega
    · have := Nat.le_of_dvd (by omega) (Int.gcd_dvd_natAbs_left a b)
      omega
  unfold Tn
  omega
set_option maxHeartbeats 1600000 in
theorem impl_GcdOfTriple_any (a b c : Int) (w : World) : Calls Try.prog 51 #[.agg #[.int .i64 a, .int .i64 b, .int .i64 c]] w fun e w' => e = .returned (.tuple #[.int .i64 (gcV a b c), .int .i64 (gcK a b c)]) ∧ Below w.heap.size w w' := by
  have HI := Lib.hid (fun w => impl_IsTriple_any a b c w)
  unfold gcV gcK
  cases h : isTr a b c
  · rw [h] at HI
    simp only [Bool.false_eq_true, if_false]
    clear h
    obtain ⟨GT, hG⟩ : ∃ G, w.heap.size = G := ⟨_, rfl⟩
    have HG := Lib.hid hG
    go_enter Try.func51, Try.ntmps51
    go_upto_region 1 with fail
    obtain ⟨w0, hw0⟩ : ∃ w0, w0 = (w.alloc (.cells #[.int .i64 a, .int .i64 b, .int .i64 c] 24)) := ⟨_, rfl⟩
    rw [← hw0]
    have HT : Hid (Bk3 w0 GT a b c) := by
      have h := (bk3_new w a b c 24).below (W' := (w.alloc (.cells #[.int .i64 a, .int .i64 b, .int .i64 c] 24))) (by (repeat' (first | (with_reducible exact Below.refl _ _) | (with_reducible refine Below.alloc ?_ ?_ _) | (with_reducible refine Below.setCell ?_ ?_ _) | (with_reducible refine Below.drew ?_) | (with_reducible refine below_drewN ?_ _) | (with_reducible assumption) | (with_reducible refine below_after (by with_reducible assumption) ?_) | go_size)))
      (try simp only [World.size_alloc] at h)
      rw [hG] at h
      rw [hw0]; exact h
    have HB : Hid (Below w.heap.size w w0) := by show Below w.heap.size w w0; rw [hw0]; (repeat' (first | (with_reducible exact Below.refl _ _) | (with_reducible refine Below.alloc ?_ ?_ _) | (with_reducible refine Below.setCell ?_ ?_ _) | (with_reducible refine Below.drew ?_) | (with_reducible refine below_drewN ?_ _) | (with_reducible assumption) | (with_reducible refine below_after (by with_reducible assumption) ?_) | go_size))
    clear hw0
    have le_T : w.heap.size ≤ GT := by omega
    obtain ⟨⟨qT0, qT1, qT2⟩, ⟨fT0, fT1, fT2⟩, zT⟩ := HT.out
    go_wp2_with fail
    go_at_call 18
    refine (HI.out _).mono ?_
    rintro e w1 ⟨rfl, hb⟩
    clear qT0 fT0 qT1 fT1 qT2 fT2 zT
    have HT := Lib.hid (HT.out.below hb)
    have HB := Lib.hid (below_after hb HB.out)
    clear hb
    obtain ⟨⟨qT0, qT1, qT2⟩, ⟨fT0, fT1, fT2⟩, zT⟩ := HT.out
    go_wp2_with fail
    refine bodyPost_ret (v := .tuple #[.int .i64 0, .int .i64 1]) (by simp (maxDischargeDepth := 8) [results, Try.results51, go_sem, *]) rfl ?_
    have hb := HB.out
    exact ⟨rfl, by (repeat' (first | (with_reducible exact Below.refl _ _) | (with_reducible refine Below.alloc ?_ ?_ _) | (with_reducible refine Below.setCell ?_ ?_ _) | (with_reducible refine Below.drew ?_) | (with_reducible refine below_drewN ?_ _) | (with_reducible assumption) | (with_reducible refine below_after (by with_reducible assumption) ?_) | go_size))⟩
  · rw [h] at HI
    simp only [if_true]
    obtain ⟨ha, hb, hc, hg⟩ := gcd_bd h
    have HG0 : Hid (∀ w, Calls Try.prog 84 #[.int .i64 a, .int .i64 b] w fun e w' => e = .returned (.int .i64 (gcdI a b)) ∧ Below w.heap.size w w') := fun w => (greatestDivisor_any a b w ha hb).mono fun e w' h => ⟨h.1, by first | exact h.2 | (rw [← h.2]; exact Below.refl _ _)⟩
    have HG2 : Hid (∀ w, Calls Try.prog 84 #[.int .i64 (gcdI a b), .int .i64 c] w fun e w' => e = .returned (.int .i64 (gcdI (gcdI a b) c)) ∧ Below w.heap.size w w') := fun w => (greatestDivisor_any (gcdI a b) c w hg hc).mono fun e w' h => ⟨h.1, by first | exact h.2 | (rw [← h.2]; exact Below.refl _ _)⟩
    obtain ⟨D, hD⟩ : ∃ D, gcdI (gcdI a b) c = D := ⟨_, rfl⟩
    obtain ⟨C, hC⟩ : ∃ C, gcdI a b = C := ⟨_, rfl⟩
    rw [hD] at HG2 ⊢
    rw [hC] at HG0 HG2
    clear h ha hb hc hg hD hC
    obtain ⟨GT, hG⟩ : ∃ G, w.heap.size = G := ⟨_, rfl⟩
    have HG := Lib.hid hG
    go_enter Try.func51, Try.ntmps51
    go_upto_region 1 with fail
    obtain ⟨w0, hw0⟩ : ∃ w0, w0 = (w.alloc (.cells #[.int .i64 a, .int .i64 b, .int .i64 c] 24)) := ⟨_, rfl⟩
    rw [← hw0]
    have HT : Hid (Bk3 w0 GT a b c) := by
      have h := (bk3_new w a b c 24).below (W' := (w.alloc (.cells #[.int .i64 a, .int .i64 b, .int .i64 c] 24))) (by (repeat' (first | (with_reducible exact Below.refl _ _) | (with_reducible refine Below.alloc ?_ ?_ _) | (with_reducible refine Below.setCell ?_ ?_ _) | (with_reducible refine Below.drew ?_) | (with_reducible refine below_drewN ?_ _) | (with_reducible assumption) | (with_reducible refine below_after (by with_reducible assumption) ?_) | go_size)))
      (try simp only [World.size_alloc] at h)
      rw [hG] at h
      rw [hw0]; exact h
    have HB : Hid (Below w.heap.size w w0) := by show Below w.heap.size w w0; rw [hw0]; (repeat' (first | (with_reducible exact Below.refl _ _) | (with_reducible refine Below.alloc ?_ ?_ _) | (with_reducible refine Below.setCell ?_ ?_ _) | (with_reducible refine Below.drew ?_) | (with_reducible refine below_drewN ?_ _) | (with_reducible assumption) | (with_reducible refine below_after (by with_reducible assumption) ?_) | go_size))
    clear hw0
    have le_T : w.heap.size ≤ GT := by omega
    obtain ⟨⟨qT0, qT1, qT2⟩, ⟨fT0, fT1, fT2⟩, zT⟩ := HT.out
    go_wp2_with fail
    go_at_call 18
    refine (HI.out _).mono ?_
    rintro e w1 ⟨rfl, hb⟩
    clear qT0 fT0 qT1 fT1 qT2 fT2 zT
    have HT := Lib.hid (HT.out.below hb)
    have HB := Lib.hid (below_after hb HB.out)
    clear hb
    have HXX : Hid (∀ W, Below w1.heap.size w1 W → Bk3 W GT a b c) := fun W hW => HT.out.below hW
    go_wp2_with fail
    refine wp_region_held_drew (S := fun W => Below w1.heap.size w1 W) (by kernel_rfl) ?_ (fun hHeld => ?_); focus ((try dsimp only); exact (Below.refl _ _).drew)
    have HT := Lib.hid (HT.out.below (Below.drew (Below.refl _ _)))
    have hHeld : Below w1.heap.size w1 _ := hHeld
    obtain ⟨wD1, hwD1⟩ : ∃ wD, w1.drew = wD := ⟨_, rfl⟩
    rw [hwD1] at hHeld HT ⊢
    clear hwD1
    (refine wpAnyH_take (i := 0) (v := ?_) rfl (by kernel_rfl) (by kernel_rfl) (by kernel_rfl) (fun _ _ _ h => h) (Or.inl ⟨rfl, ?_⟩) (by assumption) ?_; rotate_left; focus (intro W hSw; (try dsimp only at hSw); have hxx := HXX.out _ hSw; have hxT := hxx; obtain ⟨⟨iT0, iT1, iT2⟩, _, _⟩ := hxT; go_simp; try (with_reducible rfl))); (try simp only [Act.put, List.getElem_toArray, List.getElem_cons_succ, List.getElem_cons_zero, List.setIfInBounds_toArray, List.set_cons_zero, List.set_cons_succ])
    (refine wpAnyH_take (i := 1) (v := ?_) rfl (by kernel_rfl) (by kernel_rfl) (by kernel_rfl) (fun _ _ _ h => h) (Or.inl ⟨rfl, ?_⟩) (by assumption) ?_; rotate_left; focus (intro W hSw; (try dsimp only at hSw); have hxx := HXX.out _ hSw; have hxT := hxx; obtain ⟨⟨iT0, iT1, iT2⟩, _, _⟩ := hxT; go_simp; try (with_reducible rfl))); (try simp only [Act.put, List.getElem_toArray, List.getElem_cons_succ, List.getElem_cons_zero, List.setIfInBounds_toArray, List.set_cons_zero, List.set_cons_succ])
    (refine wpAnyH_take (i := 2) (v := ?_) rfl (by kernel_rfl) (by kernel_rfl) (by kernel_rfl) (fun _ _ _ h => h) (Or.inl ⟨rfl, ?_⟩) (by assumption) ?_; rotate_left; focus (intro W hSw; (try dsimp only at hSw); have hxx := HXX.out _ hSw; have hxT := hxx; obtain ⟨⟨iT0, iT1, iT2⟩, _, _⟩ := hxT; go_simp; try (with_reducible rfl))); (try simp only [Act.put, List.getElem_toArray, List.getElem_cons_succ, List.getElem_cons_zero, List.setIfInBounds_toArray, List.set_cons_zero, List.set_cons_succ])
    (refine wpAnyH_take (i := 3) (v := ?_) rfl (by kernel_rfl) (by kernel_rfl) (by kernel_rfl) (fun _ _ _ h => h) (Or.inl ⟨rfl, ?_⟩) (by assumption) ?_; rotate_left; focus (intro W hSw; (try dsimp only at hSw); have hxx := HXX.out _ hSw; have hxT := hxx; obtain ⟨⟨iT0, iT1, iT2⟩, _, _⟩ := hxT; go_simp; try (with_reducible rfl))); (try simp only [Act.put, List.getElem_toArray, List.getElem_cons_succ, List.getElem_cons_zero, List.setIfInBounds_toArray, List.set_cons_zero, List.set_cons_succ])
    (refine wpAnyH_take (i := 5) (v := ?_) rfl (by kernel_rfl) (by kernel_rfl) (by kernel_rfl) (fun _ _ _ h => h) (Or.inl ⟨rfl, ?_⟩) (by assumption) ?_; rotate_left; focus (intro W hSw; (try dsimp only at hSw); have hxx := HXX.out _ hSw; have hxT := hxx; obtain ⟨⟨iT0, iT1, iT2⟩, _, _⟩ := hxT; go_simp; try (with_reducible rfl))); (try simp only [Act.put, List.getElem_toArray, List.getElem_cons_succ, List.getElem_cons_zero, List.setIfInBounds_toArray, List.set_cons_zero, List.set_cons_succ])
    (refine wpAnyH_take (i := 6) (v := ?_) rfl (by kernel_rfl) (by kernel_rfl) (by kernel_rfl) (fun _ _ _ h => h) (Or.inl ⟨rfl, ?_⟩) (by assumption) ?_; rotate_left; focus (intro W hSw; (try dsimp only at hSw); have hxx := HXX.out _ hSw; have hxT := hxx; obtain ⟨⟨iT0, iT1, iT2⟩, _, _⟩ := hxT; go_simp; try (with_reducible rfl))); (try simp only [Act.put, List.getElem_toArray, List.getElem_cons_succ, List.getElem_cons_zero, List.setIfInBounds_toArray, List.set_cons_zero, List.set_cons_succ])
    refine wpAnyH_ready (rs := [4]) (by kernel_rfl) (by simp) ?_; refine AllReadyH.cons rfl (fun K hK => ?_) AllReadyH.nil
    go_simp; (go_at_call 84; refine (HG0.out _).mono ?_; rintro en ywr1x0 ⟨rfl, hb2⟩); have HT := Lib.hid (HT.out.below hb2); refine hK.out _ _ (below_after hb2 hHeld) (fun hHeld2 => ?_); clear hb2; (clear hHeld; rename _ => hHeld; clear hK K; have hHeld : Below w1.heap.size w1 _ := hHeld); (try simp only [Act.put, List.getElem_toArray, List.getElem_cons_succ, List.getElem_cons_zero, List.setIfInBounds_toArray, List.set_cons_zero, List.set_cons_succ])
    refine wpAnyH_ready (rs := [7]) (by kernel_rfl) (by simp) ?_; refine AllReadyH.cons rfl (fun K hK => ?_) AllReadyH.nil
    go_simp; (go_at_call 84; refine (HG2.out _).mono ?_; rintro en ywr1x1 ⟨rfl, hb2⟩); have HT := Lib.hid (HT.out.below hb2); refine hK.out _ _ (below_after hb2 hHeld) (fun hHeld2 => ?_); clear hb2; (clear hHeld; rename _ => hHeld; clear hK K; have hHeld : Below w1.heap.size w1 _ := hHeld); (try simp only [Act.put, List.getElem_toArray, List.getElem_cons_succ, List.getElem_cons_zero, List.setIfInBounds_toArray, List.set_cons_zero, List.set_cons_succ])
    (refine wpAnyH_take (i := 8) (v := ?_) rfl (by kernel_rfl) (by kernel_rfl) (by kernel_rfl) (fun _ _ _ h => h) (Or.inl ⟨rfl, ?_⟩) (by assumption) ?_; rotate_left; focus (intro W hSw; (try dsimp only at hSw); have hxx := HXX.out _ hSw; have hxT := hxx; obtain ⟨⟨iT0, iT1, iT2⟩, _, _⟩ := hxT; go_simp; try (with_reducible rfl))); (try simp only [Act.put, List.getElem_toArray, List.getElem_cons_succ, List.getElem_cons_zero, List.setIfInBounds_toArray, List.set_cons_zero, List.set_cons_succ])
    (refine wpAnyH_take (i := 9) (v := ?_) rfl (by kernel_rfl) (by kernel_rfl) (by kernel_rfl) (fun _ _ _ h => h) (Or.inl ⟨rfl, ?_⟩) (by assumption) ?_; rotate_left; focus (intro W hSw; (try dsimp only at hSw); have hxx := HXX.out _ hSw; have hxT := hxx; obtain ⟨⟨iT0, iT1, iT2⟩, _, _⟩ := hxT; go_simp; try (with_reducible rfl))); (try simp only [Act.put, List.getElem_toArray, List.getElem_cons_succ, List.getElem_cons_zero, List.setIfInBounds_toArray, List.set_cons_zero, List.set_cons_succ])
    refine wpAnyH_done (by kernel_rfl) ?_ _
    have HB := Lib.hid (HB.out.trans (hHeld.mono HB.out.size))
    clear hHeld HXX
    obtain ⟨⟨qT0, qT1, qT2⟩, ⟨fT0, fT1, fT2⟩, zT⟩ := HT.out
    go_wp2_with fail
    refine bodyPost_ret (v := .tuple #[.int .i64 D, .int .i64 0]) (by simp (maxDischargeDepth := 8) [results, Try.results51, go_sem, *]) rfl ?_
    have hb := HB.out
    exact ⟨rfl, by (repeat' (first | (with_reducible exact Below.refl _ _) | (with_reducible refine Below.alloc ?_ ?_ _) | (with_reducible refine Below.setCell ?_ ?_ _) | (with_reducible refine Below.drew ?_) | (with_reducible refine below_drewN ?_ _) | (with_reducible assumption) | (with_reducible refine below_after (by with_reducible assumption) ?_) | go_size))⟩
set_option maxHeartbeats 1600000 in
theorem spec_GcdOfTriple_any (a b c : Int) (w : World) : Calls Try.prog 50 #[.agg #[.int .i64 a, .int .i64 b, .int .i64 c]] w fun e w' => e = .returned (.tuple #[.int .i64 (gcV a b c), .int .i64 (gcK a b c)]) ∧ Below w.heap.size w w' := by
  have HI := Lib.hid (fun w => l07Is_any a b c w)
  unfold gcV gcK
  cases h : isTr a b c
  · rw [h] at HI
    simp only [Bool.false_eq_true, if_false]
    clear h
    obtain ⟨GT, hG⟩ : ∃ G, w.heap.size = G := ⟨_, rfl⟩
    have HG := Lib.hid hG
    go_enter Try.func50, Try.ntmps50
    go_upto_region 1 with fail
    obtain ⟨w0, hw0⟩ : ∃ w0, w0 = (w.alloc (.cells #[.int .i64 a, .int .i64 b, .int .i64 c] 24)) := ⟨_, rfl⟩
    rw [← hw0]
    have HT : Hid (Bk3 w0 GT a b c) := by
      have h := (bk3_new w a b c 24).below (W' := (w.alloc (.cells #[.int .i64 a, .int .i64 b, .int .i64 c] 24))) (by (repeat' (first | (with_reducible exact Below.refl _ _) | (with_reducible refine Below.alloc ?_ ?_ _) | (with_reducible refine Below.setCell ?_ ?_ _) | (with_reducible refine Below.drew ?_) | (with_reducible refine below_drewN ?_ _) | (with_reducible assumption) | (with_reducible refine below_after (by with_reducible assumption) ?_) | go_size)))
      (try simp only [World.size_alloc] at h)
      rw [hG] at h
      rw [hw0]; exact h
    have HB : Hid (Below w.heap.size w w0) := by show Below w.heap.size w w0; rw [hw0]; (repeat' (first | (with_reducible exact Below.refl _ _) | (with_reducible refine Below.alloc ?_ ?_ _) | (with_reducible refine Below.setCell ?_ ?_ _) | (with_reducible refine Below.drew ?_) | (with_reducible refine below_drewN ?_ _) | (with_reducible assumption) | (with_reducible refine below_after (by with_reducible assumption) ?_) | go_size))
    clear hw0
    have le_T : w.heap.size ≤ GT := by omega
    obtain ⟨⟨qT0, qT1, qT2⟩, ⟨fT0, fT1, fT2⟩, zT⟩ := HT.out
    go_wp2_with fail
    go_at_call 54
    refine (HI.out _).mono ?_
    rintro e w1 ⟨rfl, hb⟩
    clear qT0 fT0 qT1 fT1 qT2 fT2 zT
    have HT := Lib.hid (HT.out.below hb)
    have HB := Lib.hid (below_after hb HB.out)
    clear hb
    obtain ⟨⟨qT0, qT1, qT2⟩, ⟨fT0, fT1, fT2⟩, zT⟩ := HT.out
    go_wp2_with fail
    refine bodyPost_ret (v := .tuple #[.int .i64 0, .int .i64 1]) (by simp (maxDischargeDepth := 8) [results, Try.results50, go_sem, *]) rfl ?_
    have hb := HB.out
    exact ⟨rfl, by (repeat' (first | (with_reducible exact Below.refl _ _) | (with_reducible refine Below.alloc ?_ ?_ _) | (with_reducible refine Below.setCell ?_ ?_ _) | (with_reducible refine Below.drew ?_) | (with_reducible refine below_drewN ?_ _) | (with_reducible assumption) | (with_reducible refine below_after (by with_reducible assumption) ?_) | go_size))⟩
  · rw [h] at HI
    simp only [if_true]
    obtain ⟨ha, hb, hc, hg⟩ := gcd_bd h
    have HG0 : Hid (∀ w, Calls Try.prog 83 #[.int .i64 a, .int .i64 b] w fun e w' => e = .returned (.int .i64 (gcdI a b)) ∧ Below w.heap.size w w') := fun w => (l01Gcd_any a b w ha hb).mono fun e w' h => ⟨h.1, by first | exact h.2 | (rw [← h.2]; exact Below.refl _ _)⟩
    have HG2 : Hid (∀ w, Calls Try.prog 83 #[.int .i64 (gcdI a b), .int .i64 c] w fun e w' => e = .returned (.int .i64 (gcdI (gcdI a b) c)) ∧ Below w.heap.size w w') := fun w => (l01Gcd_any (gcdI a b) c w hg hc).mono fun e w' h => ⟨h.1, by first | exact h.2 | (rw [← h.2]; exact Below.refl _ _)⟩
    obtain ⟨D, hD⟩ : ∃ D, gcdI (gcdI a b) c = D := ⟨_, rfl⟩
    obtain ⟨C, hC⟩ : ∃ C, gcdI a b = C := ⟨_, rfl⟩
    rw [hD] at HG2 ⊢
    rw [hC] at HG0 HG2
    clear h ha hb hc hg hD hC
    obtain ⟨GT, hG⟩ : ∃ G, w.heap.size = G := ⟨_, rfl⟩
    have HG := Lib.hid hG
    go_enter Try.func50, Try.ntmps50
    go_upto_region 1 with fail
    obtain ⟨w0, hw0⟩ : ∃ w0, w0 = (w.alloc (.cells #[.int .i64 a, .int .i64 b, .int .i64 c] 24)) := ⟨_, rfl⟩
    rw [← hw0]
    have HT : Hid (Bk3 w0 GT a b c) := by
      have h := (bk3_new w a b c 24).below (W' := (w.alloc (.cells #[.int .i64 a, .int .i64 b, .int .i64 c] 24))) (by (repeat' (first | (with_reducible exact Below.refl _ _) | (with_reducible refine Below.alloc ?_ ?_ _) | (with_reducible refine Below.setCell ?_ ?_ _) | (with_reducible refine Below.drew ?_) | (with_reducible refine below_drewN ?_ _) | (with_reducible assumption) | (with_reducible refine below_after (by with_reducible assumption) ?_) | go_size)))
      (try simp only [World.size_alloc] at h)
      rw [hG] at h
      rw [hw0]; exact h
    have HB : Hid (Below w.heap.size w w0) := by show Below w.heap.size w w0; rw [hw0]; (repeat' (first | (with_reducible exact Below.refl _ _) | (with_reducible refine Below.alloc ?_ ?_ _) | (with_reducible refine Below.setCell ?_ ?_ _) | (with_reducible refine Below.drew ?_) | (with_reducible refine below_drewN ?_ _) | (with_reducible assumption) | (with_reducible refine below_after (by with_reducible assumption) ?_) | go_size))
    clear hw0
    have le_T : w.heap.size ≤ GT := by omega
    obtain ⟨⟨qT0, qT1, qT2⟩, ⟨fT0, fT1, fT2⟩, zT⟩ := HT.out
    go_wp2_with fail
    go_at_call 54
    refine (HI.out _).mono ?_
    rintro e w1 ⟨rfl, hb⟩
    clear qT0 fT0 qT1 fT1 qT2 fT2 zT
    have HT := Lib.hid (HT.out.below hb)
    have HB := Lib.hid (below_after hb HB.out)
    clear hb
    have HXX : Hid (∀ W, Below w1.heap.size w1 W → Bk3 W GT a b c) := fun W hW => HT.out.below hW
    go_wp2_with fail
    refine wp_region_held_drew (S := fun W => Below w1.heap.size w1 W) (by kernel_rfl) ?_ (fun hHeld => ?_); focus ((try dsimp only); exact (Below.refl _ _).drew)
    have HT := Lib.hid (HT.out.below (Below.drew (Below.refl _ _)))
    have hHeld : Below w1.heap.size w1 _ := hHeld
    obtain ⟨wD1, hwD1⟩ : ∃ wD, w1.drew = wD := ⟨_, rfl⟩
    rw [hwD1] at hHeld HT ⊢
    clear hwD1
    (refine wpAnyH_take (i := 0) (v := ?_) rfl (by kernel_rfl) (by kernel_rfl) (by kernel_rfl) (fun _ _ _ h => h) (Or.inl ⟨rfl, ?_⟩) (by assumption) ?_; rotate_left; focus (intro W hSw; (try dsimp only at hSw); have hxx := HXX.out _ hSw; have hxT := hxx; obtain ⟨⟨iT0, iT1, iT2⟩, _, _⟩ := hxT; go_simp; try (with_reducible rfl))); (try simp only [Act.put, List.getElem_toArray, List.getElem_cons_succ, List.getElem_cons_zero, List.setIfInBounds_toArray, List.set_cons_zero, List.set_cons_succ])
    (refine wpAnyH_take (i := 1) (v := ?_) rfl (by kernel_rfl) (by kernel_rfl) (by kernel_rfl) (fun _ _ _ h => h) (Or.inl ⟨rfl, ?_⟩) (by assumption) ?_; rotate_left; focus (intro W hSw; (try dsimp only at hSw); have hxx := HXX.out _ hSw; have hxT := hxx; obtain ⟨⟨iT0, iT1, iT2⟩, _, _⟩ := hxT; go_simp; try (with_reducible rfl))); (try simp only [Act.put, List.getElem_toArray, List.getElem_cons_succ, List.getElem_cons_zero, List.setIfInBounds_toArray, List.set_cons_zero, List.set_cons_succ])
    (refine wpAnyH_take (i := 2) (v := ?_) rfl (by kernel_rfl) (by kernel_rfl) (by kernel_rfl) (fun _ _ _ h => h) (Or.inl ⟨rfl, ?_⟩) (by assumption) ?_; rotate_left; focus (intro W hSw; (try dsimp only at hSw); have hxx := HXX.out _ hSw; have hxT := hxx; obtain ⟨⟨iT0, iT1, iT2⟩, _, _⟩ := hxT; go_simp; try (with_reducible rfl))); (try simp only [Act.put, List.getElem_toArray, List.getElem_cons_succ, List.getElem_cons_zero, List.setIfInBounds_toArray, List.set_cons_zero, List.set_cons_succ])
    (refine wpAnyH_take (i := 3) (v := ?_) rfl (by kernel_rfl) (by kernel_rfl) (by kernel_rfl) (fun _ _ _ h => h) (Or.inl ⟨rfl, ?_⟩) (by assumption) ?_; rotate_left; focus (intro W hSw; (try dsimp only at hSw); have hxx := HXX.out _ hSw; have hxT := hxx; obtain ⟨⟨iT0, iT1, iT2⟩, _, _⟩ := hxT; go_simp; try (with_reducible rfl))); (try simp only [Act.put, List.getElem_toArray, List.getElem_cons_succ, List.getElem_cons_zero, List.setIfInBounds_toArray, List.set_cons_zero, List.set_cons_succ])
    (refine wpAnyH_take (i := 5) (v := ?_) rfl (by kernel_rfl) (by kernel_rfl) (by kernel_rfl) (fun _ _ _ h => h) (Or.inl ⟨rfl, ?_⟩) (by assumption) ?_; rotate_left; focus (intro W hSw; (try dsimp only at hSw); have hxx := HXX.out _ hSw; have hxT := hxx; obtain ⟨⟨iT0, iT1, iT2⟩, _, _⟩ := hxT; go_simp; try (with_reducible rfl))); (try simp only [Act.put, List.getElem_toArray, List.getElem_cons_succ, List.getElem_cons_zero, List.setIfInBounds_toArray, List.set_cons_zero, List.set_cons_succ])
    (refine wpAnyH_take (i := 6) (v := ?_) rfl (by kernel_rfl) (by kernel_rfl) (by kernel_rfl) (fun _ _ _ h => h) (Or.inl ⟨rfl, ?_⟩) (by assumption) ?_; rotate_left; focus (intro W hSw; (try dsimp only at hSw); have hxx := HXX.out _ hSw; have hxT := hxx; obtain ⟨⟨iT0, iT1, iT2⟩, _, _⟩ := hxT; go_simp; try (with_reducible rfl))); (try simp only [Act.put, List.getElem_toArray, List.getElem_cons_succ, List.getElem_cons_zero, List.setIfInBounds_toArray, List.set_cons_zero, List.set_cons_succ])
    refine wpAnyH_ready (rs := [4]) (by kernel_rfl) (by simp) ?_; refine AllReadyH.cons rfl (fun K hK => ?_) AllReadyH.nil
    go_simp; (go_at_call 83; refine (HG0.out _).mono ?_; rintro en ywr1x0 ⟨rfl, hb2⟩); have HT := Lib.hid (HT.out.below hb2); refine hK.out _ _ (below_after hb2 hHeld) (fun hHeld2 => ?_); clear hb2; (clear hHeld; rename _ => hHeld; clear hK K; have hHeld : Below w1.heap.size w1 _ := hHeld); (try simp only [Act.put, List.getElem_toArray, List.getElem_cons_succ, List.getElem_cons_zero, List.setIfInBounds_toArray, List.set_cons_zero, List.set_cons_succ])
    refine wpAnyH_ready (rs := [7]) (by kernel_rfl) (by simp) ?_; refine AllReadyH.cons rfl (fun K hK => ?_) AllReadyH.nil
    go_simp; (go_at_call 83; refine (HG2.out _).mono ?_; rintro en ywr1x1 ⟨rfl, hb2⟩); have HT := Lib.hid (HT.out.below hb2); refine hK.out _ _ (below_after hb2 hHeld) (fun hHeld2 => ?_); clear hb2; (clear hHeld; rename _ => hHeld; clear hK K; have hHeld : Below w1.heap.size w1 _ := hHeld); (try simp only [Act.put, List.getElem_toArray, List.getElem_cons_succ, List.getElem_cons_zero, List.setIfInBounds_toArray, List.set_cons_zero, List.set_cons_succ])
    (refine wpAnyH_take (i := 8) (v := ?_) rfl (by kernel_rfl) (by kernel_rfl) (by kernel_rfl) (fun _ _ _ h => h) (Or.inl ⟨rfl, ?_⟩) (by assumption) ?_; rotate_left; focus (intro W hSw; (try dsimp only at hSw); have hxx := HXX.out _ hSw; have hxT := hxx; obtain ⟨⟨iT0, iT1, iT2⟩, _, _⟩ := hxT; go_simp; try (with_reducible rfl))); (try simp only [Act.put, List.getElem_toArray, List.getElem_cons_succ, List.getElem_cons_zero, List.setIfInBounds_toArray, List.set_cons_zero, List.set_cons_succ])
    (refine wpAnyH_take (i := 9) (v := ?_) rfl (by kernel_rfl) (by kernel_rfl) (by kernel_rfl) (fun _ _ _ h => h) (Or.inl ⟨rfl, ?_⟩) (by assumption) ?_; rotate_left; focus (intro W hSw; (try dsimp only at hSw); have hxx := HXX.out _ hSw; have hxT := hxx; obtain ⟨⟨iT0, iT1, iT2⟩, _, _⟩ := hxT; go_simp; try (with_reducible rfl))); (try simp only [Act.put, List.getElem_toArray, List.getElem_cons_succ, List.getElem_cons_zero, List.setIfInBounds_toArray, List.set_cons_zero, List.set_cons_succ])
    refine wpAnyH_done (by kernel_rfl) ?_ _
    have HB := Lib.hid (HB.out.trans (hHeld.mono HB.out.size))
    clear hHeld HXX
    obtain ⟨⟨qT0, qT1, qT2⟩, ⟨fT0, fT1, fT2⟩, zT⟩ := HT.out
    go_wp2_with fail
    refine bodyPost_ret (v := .tuple #[.int .i64 D, .int .i64 0]) (by simp (maxDischargeDepth := 8) [results, Try.results50, go_sem, *]) rfl ?_
    have hb := HB.out
    exact ⟨rfl, by (repeat' (first | (with_reducible exact Below.refl _ _) | (with_reducible refine Below.alloc ?_ ?_ _) | (with_reducible refine Below.setCell ?_ ?_ _) | (with_reducible refine Below.drew ?_) | (with_reducible refine below_drewN ?_ _) | (with_reducible assumption) | (with_reducible refine below_after (by with_reducible assumption) ?_) | go_size))⟩
end Go.Proofs.Ytbgifgfegndlkaa
