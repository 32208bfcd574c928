/-
  InnerPoints in the model (own work).
-/
import Derived.Test.YtcgaikedbhdbgaaInP
namespace Go.Proofs.Ytcgaikedbhdbgaa
open Go.ChangeShapes Go.WideShapes Go.ChangeAt Go.RowKit
set_option linter.unusedVariables false
set_option maxRecDepth 100000
set_option linter.unusedSimpArgs false
set_option maxRecDepth 100000

/-- A row of the model, by the turn. -/
def rowM4 (x0 y0 x1 y1 x2 y2 x : Int) : List Int := filN (inM x0 y0 x1 y1 x2 y2 x) (mn3 y0 y1 y2) (mx3 y0 y1 y2 - mn3 y0 y1 y2 + 1).toNat
theorem mn3_sw (a b c : Int) : mn3 a b c = mn3 a c b := by unfold mn3; omega
theorem mx3_sw (a b c : Int) : mx3 a b c = mx3 a c b := by unfold mx3; omega
theorem mn_ne {x0 y0 x1 y1 x2 y2 : Int} (h : sd x0 y0 x1 y1 x2 y2 ≠ 0) : mn3 x0 x1 x2 < mx3 x0 x1 x2 := by
  apply Int.not_le.1
  intro hle
  have h1 : x1 = x0 := by unfold mn3 mx3 at hle; omega
  have h2 : x2 = x0 := by unfold mn3 mx3 at hle; omega
  apply h
  unfold sd
  rw [h1, h2]
  simp
theorem rowsM_eq {x0 y0 x1 y1 x2 y2 : Int} (h : sd x0 y0 x1 y1 x2 y2 ≠ 0) : rowsN (rowM4 x0 y0 x1 y1 x2 y2) (mn3 x0 x1 x2) (mx3 x0 x1 x2 - mn3 x0 x1 x2 + 1).toNat = if sd x0 y0 x1 y1 x2 y2 < 0 then inL x0 y0 x2 y2 x1 y1 else inL x0 y0 x1 y1 x2 y2 := by
  by_cases hd : sd x0 y0 x1 y1 x2 y2 < 0
  · rw [if_pos hd]
    have hne := mn_ne h
    rw [mn3_sw x0, mx3_sw x0] at hne ⊢
    have hr := inL_rows (a := x0) (b := y0) (c := x2) (d := y2) (e := x1) (f := y1) (inM x0 y0 x1 y1 x2 y2) (fun x y => inM_neg hd x y) hne
    rw [← hr]
    unfold rowM4
    rw [mn3_sw y0, mx3_sw y0]
  · rw [if_neg hd]
    exact inL_rows (inM x0 y0 x1 y1 x2 y2) (fun x y => inM_pos hd x y) (mn_ne h)
theorem rowM4_len {x0 y0 x1 y1 x2 y2 : Int} (h0 : Sml x0) (h1 : Sml y0) (h2 : Sml x1) (h3 : Sml y1) (h4 : Sml x2) (h5 : Sml y2) (x : Int) : (rowM4 x0 y0 x1 y1 x2 y2 x).length ≤ 2001 := by
  obtain ⟨m1, m2, m3, _⟩ := mn_bd h1 h3 h5
  have := filN_len (inM x0 y0 x1 y1 x2 y2 x) (mn3 y0 y1 y2) (mx3 y0 y1 y2 - mn3 y0 y1 y2 + 1).toNat
  unfold rowM4
  omega
theorem sd_sm {a b c d x y : Int} (h0 : Sml a) (h1 : Sml b) (h2 : Sml c) (h3 : Sml d) (h4 : Sml x) (h5 : Sml y) : -8000000 ≤ sd a b c d x y ∧ sd a b c d x y ≤ 8000000 := by
  have a1 := h2.sub h0
  have a2 := h5.sub h1
  have a3 := h3.sub h1
  have a4 := h4.sub h0
  have p1 : ((c - a) * (y - b)).natAbs ≤ 2000 * 2000 := by rw [Int.natAbs_mul]; exact Nat.mul_le_mul (by omega) (by omega)
  have p2 : ((d - b) * (x - a)).natAbs ≤ 2000 * 2000 := by rw [Int.natAbs_mul]; exact Nat.mul_le_mul (by omega) (by omega)
  unfold sd
  omega
theorem tn_pm (x0 y0 x1 y1 x2 y2 : Int) : tnI x0 y0 x1 y1 x2 y2 = 1 ∨ tnI x0 y0 x1 y1 x2 y2 = -1 := by unfold tnI; split; exact .inr rfl; exact .inl rfl
theorem filN_snoc (p : Int → Bool) (y : Int) (n : Nat) : filN p y (n + 1) = filN p y n ++ (if p (y + n) then [y + n] else []) := rfl
set_option maxHeartbeats 8000000 in
theorem spec_InnerPoints_in (x0 y0 x1 y1 x2 y2 T : Int) (L : List (Int × Int)) (w : World) (h : isT x0 y0 x1 y1 x2 y2 = true) (k : ¬ 1000 < inN x0 y0 x1 y1 x2 y2) (hT : tnI x0 y0 x1 y1 x2 y2 = T) (hL : rowsN (rowM4 x0 y0 x1 y1 x2 y2) (mn3 x0 x1 x2) (mx3 x0 x1 x2 - mn3 x0 x1 x2 + 1).toNat = L) : Calls Try.prog 26 #[.agg #[.int .i64 x0, .int .i64 y0, .int .i64 x1, .int .i64 y1, .int .i64 x2, .int .i64 y2]] w fun e w' => ∃ v, e = .returned (.tuple #[v, .int .i64 0]) ∧ OwnF w.heap.size w' v L.length (flat L) ∧ Below w.heap.size w w' := by
  obtain ⟨s0, s1, s2, s3, s4, s5, _⟩ := isT_iff.1 h
  have HIN : Hid (∀ w, Calls Try.prog 69 #[.agg #[.int .i64 x0, .int .i64 y0, .int .i64 x1, .int .i64 y1, .int .i64 x2, .int .i64 y2]] w fun e w' => e = .returned (.int .i64 (inN x0 y0 x1 y1 x2 y2)) ∧ Below w.heap.size w w') := fun w => l04Inner_tri x0 y0 x1 y1 x2 y2 w h
  obtain ⟨c, hc⟩ : ∃ c, inN x0 y0 x1 y1 x2 y2 = c := ⟨_, rfl⟩
  rw [hc] at HIN k
  have HT := Lib.hid h
  have HB := Lib.hid (And.intro s0 (And.intro s1 (And.intro s2 (And.intro s3 (And.intro s4 s5)))))
  have HTD : Hid (∀ w, Calls Try.prog 70 #[.agg #[.int .i64 x0, .int .i64 y0, .int .i64 x1, .int .i64 y1, .int .i64 x2, .int .i64 y2], .int .i64 0, .agg #[.int .i64 x2, .int .i64 y2]] w fun e w' => e = .returned (.int .i64 (sd x0 y0 x1 y1 x2 y2)) ∧ Below w.heap.size w w') := fun w => l04Side_0 x0 y0 x1 y1 x2 y2 x2 y2 w s0 s1 s2 s3 s4 s5 s4.q4 s5.q4
  have HRL : Hid (∀ x, (rowM4 x0 y0 x1 y1 x2 y2 x).length ≤ 2001) := fun x => rowM4_len s0 s1 s2 s3 s4 s5 x
  have HLL := Lib.hid hL
  have HTT := Lib.hid hT
  have htp : T = 1 ∨ T = -1 := by rw [← hT]; exact tn_pm x0 y0 x1 y1 x2 y2
  have hmn := fun (W : World) (ts : Array TypeId) (t : TypeId) => run_min3 Try.prog W ts t x0 x1 x2
  have hmx := fun (W : World) (ts : Array TypeId) (t : TypeId) => run_max3 Try.prog W ts t x0 x1 x2
  have hmn2 := fun (W : World) (ts : Array TypeId) (t : TypeId) => run_min3 Try.prog W ts t y0 y1 y2
  have hmx2 := fun (W : World) (ts : Array TypeId) (t : TypeId) => run_max3 Try.prog W ts t y0 y1 y2
  have HM := Lib.hid (And.intro (mn_bd s0 s2 s4) (mn_bd s1 s3 s5))
  have hcd : tnI x0 y0 x1 y1 x2 y2 = if sd x0 y0 x1 y1 x2 y2 < 0 then -1 else 1 := rfl
  obtain ⟨D, hD⟩ : ∃ D, sd x0 y0 x1 y1 x2 y2 = D := ⟨_, rfl⟩
  rw [hD] at HTD hcd
  rw [hT] at hcd
  have HTP := Lib.hid htp
  clear h hc s0 s1 s2 s3 s4 s5 hL hT htp hD
  go_enter Try.func26, Try.ntmps26
  go_upto_region 1 with fail
  obtain ⟨wB, hwB⟩ : ∃ wB, wB = w.alloc (.cells #[.int .i64 x0, .int .i64 y0, .int .i64 x1, .int .i64 y1, .int .i64 x2, .int .i64 y2] 27) := ⟨_, rfl⟩
  rw [← hwB]
  have h6 : Bk6 wB w.heap.size x0 y0 x1 y1 x2 y2 := by rw [hwB]; exact bk6_new w x0 y0 x1 y1 x2 y2 _
  have HBW : Hid (Below w.heap.size w wB) := by
    show Below w.heap.size w wB
    rw [hwB]; (repeat' (first | (with_reducible exact Below.refl _ _) | (with_reducible refine Below.alloc ?_ ?_ _) | (with_reducible refine Below.setCell ?_ ?_ _) | (with_reducible refine Below.drew ?_) | (with_reducible refine below_drewN ?_ _) | (with_reducible assumption) | (with_reducible refine below_after (by with_reducible assumption) ?_) | go_size))
  have HX : Hid (∀ W, Below wB.heap.size wB W → Bk6 W w.heap.size x0 y0 x1 y1 x2 y2) := fun W hW => h6.below hW
  clear hwB h6
  obtain ⟨⟨i0, i1, i2, i3, i4, i5⟩, _, iz⟩ := HX.out wB (Below.refl _ _)
  go_wp2_with fail
  go_at_call 62
  refine (l04Is_any _ _ _ _ _ _ _).mono ?_
  rw [HT.out]
  rintro e w1 ⟨rfl, b1⟩
  clear i0 i1 i2 i3 i4 i5 iz
  obtain ⟨⟨i0, i1, i2, i3, i4, i5⟩, _, iz⟩ := HX.out w1 b1
  go_wp2_with fail
  go_at_call 69
  refine (HIN.out _).mono ?_
  rintro e w2 ⟨rfl, b2⟩
  have hb2 := below_after b2 b1
  clear i0 i1 i2 i3 i4 i5 iz b1 b2
  obtain ⟨⟨i0, i1, i2, i3, i4, i5⟩, _, iz⟩ := HX.out w2 hb2
  go_wp2_with fail
  go_at_call 70
  refine (HTD.out _).mono ?_
  rintro e w3 ⟨rfl, b3⟩
  have hb3 := below_after b3 hb2
  clear i0 i1 i2 i3 i4 i5 iz b3 hb2
  have hD : (D < 0 ∧ T = -1) ∨ (¬ D < 0 ∧ T = 1) := by
    by_cases hd : D < 0
    · rw [if_pos hd] at hcd; exact .inl ⟨hd, hcd⟩
    · rw [if_neg hd] at hcd; exact .inr ⟨hd, hcd⟩
  clear hcd
  obtain ⟨wq, hwq⟩ : ∃ wq, wq = w3.alloc (.cells #[] 25) := ⟨_, rfl⟩
  obtain ⟨G, hG⟩ : ∃ G, w3.heap.size = G := ⟨_, rfl⟩
  have hO0 : OwnF wB.heap.size wq (.slice (some ⟨G, 0, none⟩) 0 0) 0 [] := by rw [hwq, ← hG]; exact own_up (World.ownsRow_made w3 #[] 0 (Nat.le_refl _) (Nat.zero_le _) rfl) hb3.size
  have hbq : Below wB.heap.size wB wq := by rw [hwq]; exact hb3.alloc hb3.size _
  have HO0 := Lib.hid hO0
  have HBB := Lib.hid hbq
  clear hO0 hbq hb3
  rcases hD with ⟨hd, rfl⟩ | ⟨hd, rfl⟩
  · skip
    go_upto_region 9 with fail
    rw [← hwq]
    (try rw [hG])
    clear hwq hG hd
    go_cut [6, 7] (fun v6 v7 wx => v6 = .int .i64 (mn3 x0 x1 x2) ∧ v7 = .int .i64 (mx3 x0 x1 x2) ∧ Below wq.heap.size wq wx)
    case first =>
      refine wp_region_held_drew (S := fun W => Below wq.heap.size wq W) (by kernel_rfl) ?_ (fun hHeld => ?_); focus ((try dsimp only); exact (Below.refl _ _).drew)
      have hHeld : Below wq.heap.size wq _ := hHeld
      obtain ⟨wD, hwD⟩ : ∃ wD, wq.drew = wD := ⟨_, rfl⟩
      rw [hwD] at hHeld ⊢
      clear hwD
      (refine wpAnyH_take (i := 0) (v := ?_) rfl (by kernel_rfl) (by kernel_rfl) (by kernel_rfl) (fun _ _ _ h => h) (Or.inl ⟨rfl, ?_⟩) (by assumption) ?_; rotate_left; focus (intro W hSw; (try dsimp only at hSw); obtain ⟨⟨i0, i1, i2, i3, i4, i5⟩, _, iz⟩ := HX.out _ (below_after hSw HBB.out); go_simp; try (with_reducible rfl))); (try simp only [Act.put, List.getElem_toArray, List.getElem_cons_succ, List.getElem_cons_zero, List.setIfInBounds_toArray, List.set_cons_zero, List.set_cons_succ])
      (refine wpAnyH_take (i := 1) (v := ?_) rfl (by kernel_rfl) (by kernel_rfl) (by kernel_rfl) (fun _ _ _ h => h) (Or.inl ⟨rfl, ?_⟩) (by assumption) ?_; rotate_left; focus (intro W hSw; (try dsimp only at hSw); obtain ⟨⟨i0, i1, i2, i3, i4, i5⟩, _, iz⟩ := HX.out _ (below_after hSw HBB.out); go_simp; try (with_reducible rfl))); (try simp only [Act.put, List.getElem_toArray, List.getElem_cons_succ, List.getElem_cons_zero, List.setIfInBounds_toArray, List.set_cons_zero, List.set_cons_succ])
      (refine wpAnyH_take (i := 2) (v := ?_) rfl (by kernel_rfl) (by kernel_rfl) (by kernel_rfl) (fun _ _ _ h => h) (Or.inl ⟨rfl, ?_⟩) (by assumption) ?_; rotate_left; focus (intro W hSw; (try dsimp only at hSw); obtain ⟨⟨i0, i1, i2, i3, i4, i5⟩, _, iz⟩ := HX.out _ (below_after hSw HBB.out); go_simp; try (with_reducible rfl))); (try simp only [Act.put, List.getElem_toArray, List.getElem_cons_succ, List.getElem_cons_zero, List.setIfInBounds_toArray, List.set_cons_zero, List.set_cons_succ])
      (refine wpAnyH_take (i := 3) (v := ?_) rfl (by kernel_rfl) (by kernel_rfl) (by kernel_rfl) (fun _ _ _ h => h) (Or.inl ⟨rfl, ?_⟩) (by assumption) ?_; rotate_left; focus (intro W hSw; (try dsimp only at hSw); obtain ⟨⟨i0, i1, i2, i3, i4, i5⟩, _, iz⟩ := HX.out _ (below_after hSw HBB.out); go_simp; try (with_reducible rfl))); (try simp only [Act.put, List.getElem_toArray, List.getElem_cons_succ, List.getElem_cons_zero, List.setIfInBounds_toArray, List.set_cons_zero, List.set_cons_succ])
      (refine wpAnyH_take (i := 4) (v := ?_) rfl (by kernel_rfl) (by kernel_rfl) (by kernel_rfl) (fun _ _ _ h => h) (Or.inl ⟨rfl, ?_⟩) (by assumption) ?_; rotate_left; focus (intro W hSw; (try dsimp only at hSw); obtain ⟨⟨i0, i1, i2, i3, i4, i5⟩, _, iz⟩ := HX.out _ (below_after hSw HBB.out); go_simp; try (with_reducible rfl))); (try simp only [Act.put, List.getElem_toArray, List.getElem_cons_succ, List.getElem_cons_zero, List.setIfInBounds_toArray, List.set_cons_zero, List.set_cons_succ])
      (refine wpAnyH_take (i := 5) (v := ?_) rfl (by kernel_rfl) (by kernel_rfl) (by kernel_rfl) (fun _ _ _ h => h) (Or.inl ⟨rfl, ?_⟩) (by assumption) ?_; rotate_left; focus (intro W hSw; (try dsimp only at hSw); obtain ⟨⟨i0, i1, i2, i3, i4, i5⟩, _, iz⟩ := HX.out _ (below_after hSw HBB.out); go_simp; try (with_reducible rfl))); (try simp only [Act.put, List.getElem_toArray, List.getElem_cons_succ, List.getElem_cons_zero, List.setIfInBounds_toArray, List.set_cons_zero, List.set_cons_succ])
      (refine wpAnyH_take (i := 6) (v := ?_) rfl (by kernel_rfl) (by kernel_rfl) (by kernel_rfl) (fun _ _ _ h => h) (Or.inl ⟨rfl, ?_⟩) (by assumption) ?_; rotate_left; focus (intro W hSw; (try dsimp only at hSw); obtain ⟨⟨i0, i1, i2, i3, i4, i5⟩, _, iz⟩ := HX.out _ (below_after hSw HBB.out); go_simp; try (with_reducible rfl))); (try simp only [Act.put, List.getElem_toArray, List.getElem_cons_succ, List.getElem_cons_zero, List.setIfInBounds_toArray, List.set_cons_zero, List.set_cons_succ])
      (refine wpAnyH_take (i := 7) (v := ?_) rfl (by kernel_rfl) (by kernel_rfl) (by kernel_rfl) (fun _ _ _ h => h) (Or.inl ⟨rfl, ?_⟩) (by assumption) ?_; rotate_left; focus (intro W hSw; (try dsimp only at hSw); obtain ⟨⟨i0, i1, i2, i3, i4, i5⟩, _, iz⟩ := HX.out _ (below_after hSw HBB.out); go_simp; try (with_reducible rfl))); (try simp only [Act.put, List.getElem_toArray, List.getElem_cons_succ, List.getElem_cons_zero, List.setIfInBounds_toArray, List.set_cons_zero, List.set_cons_succ])
      (refine wpAnyH_take (i := 8) (v := ?_) rfl (by kernel_rfl) (by kernel_rfl) (by kernel_rfl) (fun _ _ _ h => h) (Or.inl ⟨rfl, ?_⟩) (by assumption) ?_; rotate_left; focus (intro W hSw; (try dsimp only at hSw); obtain ⟨⟨i0, i1, i2, i3, i4, i5⟩, _, iz⟩ := HX.out _ (below_after hSw HBB.out); go_simp; try (with_reducible rfl))); (try simp only [Act.put, List.getElem_toArray, List.getElem_cons_succ, List.getElem_cons_zero, List.setIfInBounds_toArray, List.set_cons_zero, List.set_cons_succ])
      (refine wpAnyH_take (i := 9) (v := ?_) rfl (by kernel_rfl) (by kernel_rfl) (by kernel_rfl) (fun _ _ _ h => h) (Or.inl ⟨rfl, ?_⟩) (by assumption) ?_; rotate_left; focus (intro W hSw; (try dsimp only at hSw); obtain ⟨⟨i0, i1, i2, i3, i4, i5⟩, _, iz⟩ := HX.out _ (below_after hSw HBB.out); go_simp; try (with_reducible rfl))); (try simp only [Act.put, List.getElem_toArray, List.getElem_cons_succ, List.getElem_cons_zero, List.setIfInBounds_toArray, List.set_cons_zero, List.set_cons_succ])
      (refine wpAnyH_take (i := 10) (v := ?_) rfl (by kernel_rfl) (by kernel_rfl) (by kernel_rfl) (fun _ _ _ h => h) (Or.inl ⟨rfl, ?_⟩) (by assumption) ?_; rotate_left; focus (intro W hSw; (try dsimp only at hSw); obtain ⟨⟨i0, i1, i2, i3, i4, i5⟩, _, iz⟩ := HX.out _ (below_after hSw HBB.out); go_simp; try (with_reducible rfl))); (try simp only [Act.put, List.getElem_toArray, List.getElem_cons_succ, List.getElem_cons_zero, List.setIfInBounds_toArray, List.set_cons_zero, List.set_cons_succ])
      (refine wpAnyH_take (i := 11) (v := ?_) rfl (by kernel_rfl) (by kernel_rfl) (by kernel_rfl) (fun _ _ _ h => h) (Or.inl ⟨rfl, ?_⟩) (by assumption) ?_; rotate_left; focus (intro W hSw; (try dsimp only at hSw); obtain ⟨⟨i0, i1, i2, i3, i4, i5⟩, _, iz⟩ := HX.out _ (below_after hSw HBB.out); go_simp; try (with_reducible rfl))); (try simp only [Act.put, List.getElem_toArray, List.getElem_cons_succ, List.getElem_cons_zero, List.setIfInBounds_toArray, List.set_cons_zero, List.set_cons_succ])
      (refine wpAnyH_take (i := 12) (v := ?_) rfl (by kernel_rfl) (by kernel_rfl) (by kernel_rfl) (fun _ _ _ h => h) (Or.inl ⟨rfl, ?_⟩) (by assumption) ?_; rotate_left; focus (intro W hSw; (try dsimp only at hSw); obtain ⟨⟨i0, i1, i2, i3, i4, i5⟩, _, iz⟩ := HX.out _ (below_after hSw HBB.out); go_simp; try (with_reducible rfl))); (try simp only [Act.put, List.getElem_toArray, List.getElem_cons_succ, List.getElem_cons_zero, List.setIfInBounds_toArray, List.set_cons_zero, List.set_cons_succ])
      (refine wpAnyH_take (i := 13) (v := ?_) rfl (by kernel_rfl) (by kernel_rfl) (by kernel_rfl) (fun _ _ _ h => h) (Or.inl ⟨rfl, ?_⟩) (by assumption) ?_; rotate_left; focus (intro W hSw; (try dsimp only at hSw); obtain ⟨⟨i0, i1, i2, i3, i4, i5⟩, _, iz⟩ := HX.out _ (below_after hSw HBB.out); go_simp; try (with_reducible rfl))); (try simp only [Act.put, List.getElem_toArray, List.getElem_cons_succ, List.getElem_cons_zero, List.setIfInBounds_toArray, List.set_cons_zero, List.set_cons_succ])
      (refine wpAnyH_take (i := 14) (v := ?_) rfl (by kernel_rfl) (by kernel_rfl) (by kernel_rfl) (fun _ _ _ h => h) (Or.inl ⟨rfl, ?_⟩) (by assumption) ?_; rotate_left; focus (intro W hSw; (try dsimp only at hSw); obtain ⟨⟨i0, i1, i2, i3, i4, i5⟩, _, iz⟩ := HX.out _ (below_after hSw HBB.out); go_simp; try (with_reducible rfl))); (try simp only [Act.put, List.getElem_toArray, List.getElem_cons_succ, List.getElem_cons_zero, List.setIfInBounds_toArray, List.set_cons_zero, List.set_cons_succ])
      (refine wpAnyH_take (i := 15) (v := ?_) rfl (by kernel_rfl) (by kernel_rfl) (by kernel_rfl) (fun _ _ _ h => h) (Or.inl ⟨rfl, ?_⟩) (by assumption) ?_; rotate_left; focus (intro W hSw; (try dsimp only at hSw); obtain ⟨⟨i0, i1, i2, i3, i4, i5⟩, _, iz⟩ := HX.out _ (below_after hSw HBB.out); go_simp; try (with_reducible rfl))); (try simp only [Act.put, List.getElem_toArray, List.getElem_cons_succ, List.getElem_cons_zero, List.setIfInBounds_toArray, List.set_cons_zero, List.set_cons_succ])
      (refine wpAnyH_take (i := 16) (v := ?_) rfl (by kernel_rfl) (by kernel_rfl) (by kernel_rfl) (fun _ _ _ h => h) (Or.inl ⟨rfl, ?_⟩) (by assumption) ?_; rotate_left; focus (intro W hSw; (try dsimp only at hSw); obtain ⟨⟨i0, i1, i2, i3, i4, i5⟩, _, iz⟩ := HX.out _ (below_after hSw HBB.out); go_simp; try (with_reducible rfl))); (try simp only [Act.put, List.getElem_toArray, List.getElem_cons_succ, List.getElem_cons_zero, List.setIfInBounds_toArray, List.set_cons_zero, List.set_cons_succ])
      (refine wpAnyH_take (i := 17) (v := ?_) rfl (by kernel_rfl) (by kernel_rfl) (by kernel_rfl) (fun _ _ _ h => h) (Or.inl ⟨rfl, ?_⟩) (by assumption) ?_; rotate_left; focus (intro W hSw; (try dsimp only at hSw); obtain ⟨⟨i0, i1, i2, i3, i4, i5⟩, _, iz⟩ := HX.out _ (below_after hSw HBB.out); go_simp; try (with_reducible rfl))); (try simp only [Act.put, List.getElem_toArray, List.getElem_cons_succ, List.getElem_cons_zero, List.setIfInBounds_toArray, List.set_cons_zero, List.set_cons_succ])
      (refine wpAnyH_take (i := 18) (v := ?_) rfl (by kernel_rfl) (by kernel_rfl) (by kernel_rfl) (fun _ _ _ h => h) (Or.inl ⟨rfl, ?_⟩) (by assumption) ?_; rotate_left; focus (intro W hSw; (try dsimp only at hSw); obtain ⟨⟨i0, i1, i2, i3, i4, i5⟩, _, iz⟩ := HX.out _ (below_after hSw HBB.out); go_simp; try (with_reducible rfl))); (try simp only [Act.put, List.getElem_toArray, List.getElem_cons_succ, List.getElem_cons_zero, List.setIfInBounds_toArray, List.set_cons_zero, List.set_cons_succ])
      (refine wpAnyH_take (i := 19) (v := ?_) rfl (by kernel_rfl) (by kernel_rfl) (by kernel_rfl) (fun _ _ _ h => h) (Or.inl ⟨rfl, ?_⟩) (by assumption) ?_; rotate_left; focus (intro W hSw; (try dsimp only at hSw); obtain ⟨⟨i0, i1, i2, i3, i4, i5⟩, _, iz⟩ := HX.out _ (below_after hSw HBB.out); go_simp; try (with_reducible rfl))); (try simp only [Act.put, List.getElem_toArray, List.getElem_cons_succ, List.getElem_cons_zero, List.setIfInBounds_toArray, List.set_cons_zero, List.set_cons_succ])
      (refine wpAnyH_take (i := 20) (v := ?_) rfl (by kernel_rfl) (by kernel_rfl) (by kernel_rfl) (fun _ _ _ h => h) (Or.inl ⟨rfl, ?_⟩) (by assumption) ?_; rotate_left; focus (intro W hSw; (try dsimp only at hSw); obtain ⟨⟨i0, i1, i2, i3, i4, i5⟩, _, iz⟩ := HX.out _ (below_after hSw HBB.out); go_simp; try (with_reducible rfl))); (try simp only [Act.put, List.getElem_toArray, List.getElem_cons_succ, List.getElem_cons_zero, List.setIfInBounds_toArray, List.set_cons_zero, List.set_cons_succ])
      (refine wpAnyH_take (i := 21) (v := ?_) rfl (by kernel_rfl) (by kernel_rfl) (by kernel_rfl) (fun _ _ _ h => h) (Or.inl ⟨rfl, ?_⟩) (by assumption) ?_; rotate_left; focus (intro W hSw; (try dsimp only at hSw); obtain ⟨⟨i0, i1, i2, i3, i4, i5⟩, _, iz⟩ := HX.out _ (below_after hSw HBB.out); go_simp; try (with_reducible rfl))); (try simp only [Act.put, List.getElem_toArray, List.getElem_cons_succ, List.getElem_cons_zero, List.setIfInBounds_toArray, List.set_cons_zero, List.set_cons_succ])
      refine wpAnyH_done (by kernel_rfl) ?_ _
      go_wp2_with fail
      go_meet
      exact ⟨rfl, rfl, hHeld⟩
    case rest =>
      obtain ⟨rfl, rfl, hbx⟩ := hcut
      obtain ⟨wr1, rfl⟩ : ∃ w2, w2 = wc := ⟨_, rfl⟩
      have HO1 := Lib.hid (HO0.out.below hbx)
      have HBB := Lib.hid (below_after hbx HBB.out)
      clear hbx HO0
      go_upto_region 10 with fail
      go_cut [8, 9] (fun v6 v7 wx => v6 = .int .i64 (mn3 y0 y1 y2) ∧ v7 = .int .i64 (mx3 y0 y1 y2) ∧ Below wr1.heap.size wr1 wx)
      case first =>
        refine wp_region_held_drew (S := fun W => Below wr1.heap.size wr1 W) (by kernel_rfl) ?_ (fun hHeld => ?_); focus ((try dsimp only); exact (Below.refl _ _).drew)
        have hHeld : Below wr1.heap.size wr1 _ := hHeld
        obtain ⟨wD, hwD⟩ : ∃ wD, wr1.drew = wD := ⟨_, rfl⟩
        rw [hwD] at hHeld ⊢
        clear hwD
        (refine wpAnyH_take (i := 0) (v := ?_) rfl (by kernel_rfl) (by kernel_rfl) (by kernel_rfl) (fun _ _ _ h => h) (Or.inl ⟨rfl, ?_⟩) (by assumption) ?_; rotate_left; focus (intro W hSw; (try dsimp only at hSw); obtain ⟨⟨i0, i1, i2, i3, i4, i5⟩, _, iz⟩ := HX.out _ (below_after hSw HBB.out); go_simp; try (with_reducible rfl))); (try simp only [Act.put, List.getElem_toArray, List.getElem_cons_succ, List.getElem_cons_zero, List.setIfInBounds_toArray, List.set_cons_zero, List.set_cons_succ])
        (refine wpAnyH_take (i := 1) (v := ?_) rfl (by kernel_rfl) (by kernel_rfl) (by kernel_rfl) (fun _ _ _ h => h) (Or.inl ⟨rfl, ?_⟩) (by assumption) ?_; rotate_left; focus (intro W hSw; (try dsimp only at hSw); obtain ⟨⟨i0, i1, i2, i3, i4, i5⟩, _, iz⟩ := HX.out _ (below_after hSw HBB.out); go_simp; try (with_reducible rfl))); (try simp only [Act.put, List.getElem_toArray, List.getElem_cons_succ, List.getElem_cons_zero, List.setIfInBounds_toArray, List.set_cons_zero, List.set_cons_succ])
        (refine wpAnyH_take (i := 2) (v := ?_) rfl (by kernel_rfl) (by kernel_rfl) (by kernel_rfl) (fun _ _ _ h => h) (Or.inl ⟨rfl, ?_⟩) (by assumption) ?_; rotate_left; focus (intro W hSw; (try dsimp only at hSw); obtain ⟨⟨i0, i1, i2, i3, i4, i5⟩, _, iz⟩ := HX.out _ (below_after hSw HBB.out); go_simp; try (with_reducible rfl))); (try simp only [Act.put, List.getElem_toArray, List.getElem_cons_succ, List.getElem_cons_zero, List.setIfInBounds_toArray, List.set_cons_zero, List.set_cons_succ])
        (refine wpAnyH_take (i := 3) (v := ?_) rfl (by kernel_rfl) (by kernel_rfl) (by kernel_rfl) (fun _ _ _ h => h) (Or.inl ⟨rfl, ?_⟩) (by assumption) ?_; rotate_left; focus (intro W hSw; (try dsimp only at hSw); obtain ⟨⟨i0, i1, i2, i3, i4, i5⟩, _, iz⟩ := HX.out _ (below_after hSw HBB.out); go_simp; try (with_reducible rfl))); (try simp only [Act.put, List.getElem_toArray, List.getElem_cons_succ, List.getElem_cons_zero, List.setIfInBounds_toArray, List.set_cons_zero, List.set_cons_succ])
        (refine wpAnyH_take (i := 4) (v := ?_) rfl (by kernel_rfl) (by kernel_rfl) (by kernel_rfl) (fun _ _ _ h => h) (Or.inl ⟨rfl, ?_⟩) (by assumption) ?_; rotate_left; focus (intro W hSw; (try dsimp only at hSw); obtain ⟨⟨i0, i1, i2, i3, i4, i5⟩, _, iz⟩ := HX.out _ (below_after hSw HBB.out); go_simp; try (with_reducible rfl))); (try simp only [Act.put, List.getElem_toArray, List.getElem_cons_succ, List.getElem_cons_zero, List.setIfInBounds_toArray, List.set_cons_zero, List.set_cons_succ])
        (refine wpAnyH_take (i := 5) (v := ?_) rfl (by kernel_rfl) (by kernel_rfl) (by kernel_rfl) (fun _ _ _ h => h) (Or.inl ⟨rfl, ?_⟩) (by assumption) ?_; rotate_left; focus (intro W hSw; (try dsimp only at hSw); obtain ⟨⟨i0, i1, i2, i3, i4, i5⟩, _, iz⟩ := HX.out _ (below_after hSw HBB.out); go_simp; try (with_reducible rfl))); (try simp only [Act.put, List.getElem_toArray, List.getElem_cons_succ, List.getElem_cons_zero, List.setIfInBounds_toArray, List.set_cons_zero, List.set_cons_succ])
        (refine wpAnyH_take (i := 6) (v := ?_) rfl (by kernel_rfl) (by kernel_rfl) (by kernel_rfl) (fun _ _ _ h => h) (Or.inl ⟨rfl, ?_⟩) (by assumption) ?_; rotate_left; focus (intro W hSw; (try dsimp only at hSw); obtain ⟨⟨i0, i1, i2, i3, i4, i5⟩, _, iz⟩ := HX.out _ (below_after hSw HBB.out); go_simp; try (with_reducible rfl))); (try simp only [Act.put, List.getElem_toArray, List.getElem_cons_succ, List.getElem_cons_zero, List.setIfInBounds_toArray, List.set_cons_zero, List.set_cons_succ])
        (refine wpAnyH_take (i := 7) (v := ?_) rfl (by kernel_rfl) (by kernel_rfl) (by kernel_rfl) (fun _ _ _ h => h) (Or.inl ⟨rfl, ?_⟩) (by assumption) ?_; rotate_left; focus (intro W hSw; (try dsimp only at hSw); obtain ⟨⟨i0, i1, i2, i3, i4, i5⟩, _, iz⟩ := HX.out _ (below_after hSw HBB.out); go_simp; try (with_reducible rfl))); (try simp only [Act.put, List.getElem_toArray, List.getElem_cons_succ, List.getElem_cons_zero, List.setIfInBounds_toArray, List.set_cons_zero, List.set_cons_succ])
        (refine wpAnyH_take (i := 8) (v := ?_) rfl (by kernel_rfl) (by kernel_rfl) (by kernel_rfl) (fun _ _ _ h => h) (Or.inl ⟨rfl, ?_⟩) (by assumption) ?_; rotate_left; focus (intro W hSw; (try dsimp only at hSw); obtain ⟨⟨i0, i1, i2, i3, i4, i5⟩, _, iz⟩ := HX.out _ (below_after hSw HBB.out); go_simp; try (with_reducible rfl))); (try simp only [Act.put, List.getElem_toArray, List.getElem_cons_succ, List.getElem_cons_zero, List.setIfInBounds_toArray, List.set_cons_zero, List.set_cons_succ])
        (refine wpAnyH_take (i := 9) (v := ?_) rfl (by kernel_rfl) (by kernel_rfl) (by kernel_rfl) (fun _ _ _ h => h) (Or.inl ⟨rfl, ?_⟩) (by assumption) ?_; rotate_left; focus (intro W hSw; (try dsimp only at hSw); obtain ⟨⟨i0, i1, i2, i3, i4, i5⟩, _, iz⟩ := HX.out _ (below_after hSw HBB.out); go_simp; try (with_reducible rfl))); (try simp only [Act.put, List.getElem_toArray, List.getElem_cons_succ, List.getElem_cons_zero, List.setIfInBounds_toArray, List.set_cons_zero, List.set_cons_succ])
        (refine wpAnyH_take (i := 10) (v := ?_) rfl (by kernel_rfl) (by kernel_rfl) (by kernel_rfl) (fun _ _ _ h => h) (Or.inl ⟨rfl, ?_⟩) (by assumption) ?_; rotate_left; focus (intro W hSw; (try dsimp only at hSw); obtain ⟨⟨i0, i1, i2, i3, i4, i5⟩, _, iz⟩ := HX.out _ (below_after hSw HBB.out); go_simp; try (with_reducible rfl))); (try simp only [Act.put, List.getElem_toArray, List.getElem_cons_succ, List.getElem_cons_zero, List.setIfInBounds_toArray, List.set_cons_zero, List.set_cons_succ])
        (refine wpAnyH_take (i := 11) (v := ?_) rfl (by kernel_rfl) (by kernel_rfl) (by kernel_rfl) (fun _ _ _ h => h) (Or.inl ⟨rfl, ?_⟩) (by assumption) ?_; rotate_left; focus (intro W hSw; (try dsimp only at hSw); obtain ⟨⟨i0, i1, i2, i3, i4, i5⟩, _, iz⟩ := HX.out _ (below_after hSw HBB.out); go_simp; try (with_reducible rfl))); (try simp only [Act.put, List.getElem_toArray, List.getElem_cons_succ, List.getElem_cons_zero, List.setIfInBounds_toArray, List.set_cons_zero, List.set_cons_succ])
        (refine wpAnyH_take (i := 12) (v := ?_) rfl (by kernel_rfl) (by kernel_rfl) (by kernel_rfl) (fun _ _ _ h => h) (Or.inl ⟨rfl, ?_⟩) (by assumption) ?_; rotate_left; focus (intro W hSw; (try dsimp only at hSw); obtain ⟨⟨i0, i1, i2, i3, i4, i5⟩, _, iz⟩ := HX.out _ (below_after hSw HBB.out); go_simp; try (with_reducible rfl))); (try simp only [Act.put, List.getElem_toArray, List.getElem_cons_succ, List.getElem_cons_zero, List.setIfInBounds_toArray, List.set_cons_zero, List.set_cons_succ])
        (refine wpAnyH_take (i := 13) (v := ?_) rfl (by kernel_rfl) (by kernel_rfl) (by kernel_rfl) (fun _ _ _ h => h) (Or.inl ⟨rfl, ?_⟩) (by assumption) ?_; rotate_left; focus (intro W hSw; (try dsimp only at hSw); obtain ⟨⟨i0, i1, i2, i3, i4, i5⟩, _, iz⟩ := HX.out _ (below_after hSw HBB.out); go_simp; try (with_reducible rfl))); (try simp only [Act.put, List.getElem_toArray, List.getElem_cons_succ, List.getElem_cons_zero, List.setIfInBounds_toArray, List.set_cons_zero, List.set_cons_succ])
        (refine wpAnyH_take (i := 14) (v := ?_) rfl (by kernel_rfl) (by kernel_rfl) (by kernel_rfl) (fun _ _ _ h => h) (Or.inl ⟨rfl, ?_⟩) (by assumption) ?_; rotate_left; focus (intro W hSw; (try dsimp only at hSw); obtain ⟨⟨i0, i1, i2, i3, i4, i5⟩, _, iz⟩ := HX.out _ (below_after hSw HBB.out); go_simp; try (with_reducible rfl))); (try simp only [Act.put, List.getElem_toArray, List.getElem_cons_succ, List.getElem_cons_zero, List.setIfInBounds_toArray, List.set_cons_zero, List.set_cons_succ])
        (refine wpAnyH_take (i := 15) (v := ?_) rfl (by kernel_rfl) (by kernel_rfl) (by kernel_rfl) (fun _ _ _ h => h) (Or.inl ⟨rfl, ?_⟩) (by assumption) ?_; rotate_left; focus (intro W hSw; (try dsimp only at hSw); obtain ⟨⟨i0, i1, i2, i3, i4, i5⟩, _, iz⟩ := HX.out _ (below_after hSw HBB.out); go_simp; try (with_reducible rfl))); (try simp only [Act.put, List.getElem_toArray, List.getElem_cons_succ, List.getElem_cons_zero, List.setIfInBounds_toArray, List.set_cons_zero, List.set_cons_succ])
        (refine wpAnyH_take (i := 16) (v := ?_) rfl (by kernel_rfl) (by kernel_rfl) (by kernel_rfl) (fun _ _ _ h => h) (Or.inl ⟨rfl, ?_⟩) (by assumption) ?_; rotate_left; focus (intro W hSw; (try dsimp only at hSw); obtain ⟨⟨i0, i1, i2, i3, i4, i5⟩, _, iz⟩ := HX.out _ (below_after hSw HBB.out); go_simp; try (with_reducible rfl))); (try simp only [Act.put, List.getElem_toArray, List.getElem_cons_succ, List.getElem_cons_zero, List.setIfInBounds_toArray, List.set_cons_zero, List.set_cons_succ])
        (refine wpAnyH_take (i := 17) (v := ?_) rfl (by kernel_rfl) (by kernel_rfl) (by kernel_rfl) (fun _ _ _ h => h) (Or.inl ⟨rfl, ?_⟩) (by assumption) ?_; rotate_left; focus (intro W hSw; (try dsimp only at hSw); obtain ⟨⟨i0, i1, i2, i3, i4, i5⟩, _, iz⟩ := HX.out _ (below_after hSw HBB.out); go_simp; try (with_reducible rfl))); (try simp only [Act.put, List.getElem_toArray, List.getElem_cons_succ, List.getElem_cons_zero, List.setIfInBounds_toArray, List.set_cons_zero, List.set_cons_succ])
        (refine wpAnyH_take (i := 18) (v := ?_) rfl (by kernel_rfl) (by kernel_rfl) (by kernel_rfl) (fun _ _ _ h => h) (Or.inl ⟨rfl, ?_⟩) (by assumption) ?_; rotate_left; focus (intro W hSw; (try dsimp only at hSw); obtain ⟨⟨i0, i1, i2, i3, i4, i5⟩, _, iz⟩ := HX.out _ (below_after hSw HBB.out); go_simp; try (with_reducible rfl))); (try simp only [Act.put, List.getElem_toArray, List.getElem_cons_succ, List.getElem_cons_zero, List.setIfInBounds_toArray, List.set_cons_zero, List.set_cons_succ])
        (refine wpAnyH_take (i := 19) (v := ?_) rfl (by kernel_rfl) (by kernel_rfl) (by kernel_rfl) (fun _ _ _ h => h) (Or.inl ⟨rfl, ?_⟩) (by assumption) ?_; rotate_left; focus (intro W hSw; (try dsimp only at hSw); obtain ⟨⟨i0, i1, i2, i3, i4, i5⟩, _, iz⟩ := HX.out _ (below_after hSw HBB.out); go_simp; try (with_reducible rfl))); (try simp only [Act.put, List.getElem_toArray, List.getElem_cons_succ, List.getElem_cons_zero, List.setIfInBounds_toArray, List.set_cons_zero, List.set_cons_succ])
        (refine wpAnyH_take (i := 20) (v := ?_) rfl (by kernel_rfl) (by kernel_rfl) (by kernel_rfl) (fun _ _ _ h => h) (Or.inl ⟨rfl, ?_⟩) (by assumption) ?_; rotate_left; focus (intro W hSw; (try dsimp only at hSw); obtain ⟨⟨i0, i1, i2, i3, i4, i5⟩, _, iz⟩ := HX.out _ (below_after hSw HBB.out); go_simp; try (with_reducible rfl))); (try simp only [Act.put, List.getElem_toArray, List.getElem_cons_succ, List.getElem_cons_zero, List.setIfInBounds_toArray, List.set_cons_zero, List.set_cons_succ])
        (refine wpAnyH_take (i := 21) (v := ?_) rfl (by kernel_rfl) (by kernel_rfl) (by kernel_rfl) (fun _ _ _ h => h) (Or.inl ⟨rfl, ?_⟩) (by assumption) ?_; rotate_left; focus (intro W hSw; (try dsimp only at hSw); obtain ⟨⟨i0, i1, i2, i3, i4, i5⟩, _, iz⟩ := HX.out _ (below_after hSw HBB.out); go_simp; try (with_reducible rfl))); (try simp only [Act.put, List.getElem_toArray, List.getElem_cons_succ, List.getElem_cons_zero, List.setIfInBounds_toArray, List.set_cons_zero, List.set_cons_succ])
        refine wpAnyH_done (by kernel_rfl) ?_ _
        go_wp2_with fail
        go_meet
        exact ⟨rfl, rfl, hHeld⟩
      case rest =>
        obtain ⟨rfl, rfl, hbx⟩ := hcut
        obtain ⟨wr2, rfl⟩ : ∃ w2, w2 = wc := ⟨_, rfl⟩
        have hO0 := HO1.out.below hbx
        have hb0 := below_after hbx HBB.out
        clear hbx HO1 hmn hmx hmn2 hmx2
        obtain ⟨⟨a1, a2, a3, _⟩, ⟨b1, b2, b3, _⟩⟩ := HM.out
        have HR4 : Hid (∀ x, rowM4 x0 y0 x1 y1 x2 y2 x = filN (inM x0 y0 x1 y1 x2 y2 x) (mn3 y0 y1 y2) (mx3 y0 y1 y2 - mn3 y0 y1 y2 + 1).toNat) := fun x => rfl
        have HLM := HLL
        obtain ⟨lo, hlo⟩ : ∃ l, mn3 x0 x1 x2 = l := ⟨_, rfl⟩
        obtain ⟨hi, hhi⟩ : ∃ l, mx3 x0 x1 x2 = l := ⟨_, rfl⟩
        obtain ⟨fr, hfr⟩ : ∃ l, mn3 y0 y1 y2 = l := ⟨_, rfl⟩
        obtain ⟨up, hto⟩ : ∃ l, mx3 y0 y1 y2 = l := ⟨_, rfl⟩
        rw [hlo] at a1 a3 HLM ⊢
        rw [hhi] at a2 a3 HLM ⊢
        rw [hfr] at b1 b3 HR4 ⊢
        rw [hto] at b2 b3 HR4 ⊢
        clear hlo hhi hfr hto
        go_wp2_with fail
        go_loopw [5, 10] (fun v xv wr => ∃ (k n : Nat) (va : Option Addr) (vc : Nat), (k : Int) ≤ hi - lo + 1 ∧ n = (rowsN (rowM4 x0 y0 x1 y1 x2 y2) lo k).length ∧ v = .slice va n vc ∧ xv = .int .i64 (lo + k) ∧ OwnF wB.heap.size wr (.slice va n vc) n (flat (rowsN (rowM4 x0 y0 x1 y1 x2 y2) lo k)) ∧ Below wB.heap.size wB wr) (fun _ xv _ => (hi + 1 - intOf xv).toNat)
        case atStart => exact ⟨0, 0, _, _, by omega, rfl, rfl, by go_num, hO0, hb0⟩
        case round =>
          clear hO0 hb0
          obtain ⟨k, n, va, vc, hk, hn, rfl, rfl, hown, hbel⟩ := hrel
          have HO := Lib.hid hown
          have HN := Lib.hid hn
          clear hown hn
          by_cases hle : lo + (k : Int) ≤ hi
          · have hxs : Sml (lo + (k : Int)) := by unfold Sml; omega
            have hrk1 : rowsN (rowM4 x0 y0 x1 y1 x2 y2) lo (k + 1) = (rowsN (rowM4 x0 y0 x1 y1 x2 y2) lo k) ++ rowP (lo + (k : Int)) (rowM4 x0 y0 x1 y1 x2 y2 (lo + (k : Int))) := rfl
            have hwx : IntKind.i64.wrap (lo + (k : Int) + 1) = lo + (k : Int) + 1 := by rw [IntKind.wrap_i64]; omega
            have hkx : lo + ((k + 1 : Nat) : Int) = lo + (k : Int) + 1 := by omega
            have hkk : ((k + 1 : Nat) : Int) ≤ hi - lo + 1 := by omega
            have hkb : k ≤ 2000 := by omega
            obtain ⟨x, hx⟩ : ∃ x, lo + (k : Int) = x := ⟨_, rfl⟩
            rw [hx] at hle hxs hrk1 hwx hkx ⊢
            have HXX := Lib.hid (And.intro hxs (And.intro hrk1 (And.intro hkx (And.intro hkk hkb))))
            have hxb : -1000 ≤ x ∧ x ≤ 1000 := hxs
            clear hx hxs hrk1 hkx hkk hkb hk
            have hO0 : OwnF wB.heap.size wr (.slice va n vc) n (flat ((rowsN (rowM4 x0 y0 x1 y1 x2 y2) lo k) ++ rowP x (filN (inM x0 y0 x1 y1 x2 y2 x) fr 0))) := by show OwnF _ _ _ _ (flat ((rowsN (rowM4 x0 y0 x1 y1 x2 y2) lo k) ++ [])); rw [List.append_nil]; exact HO.out
            have HN0 : Hid (n = ((rowsN (rowM4 x0 y0 x1 y1 x2 y2) lo k) ++ rowP x (filN (inM x0 y0 x1 y1 x2 y2 x) fr 0)).length) := by show n = ((rowsN (rowM4 x0 y0 x1 y1 x2 y2) lo k) ++ []).length; rw [List.append_nil]; exact HN.out
            go_wp2_with fail
            go_loopw [5, 11] (fun v yv wr => ∃ (j n : Nat) (va : Option Addr) (vc : Nat), (j : Int) ≤ up - fr + 1 ∧ n = ((rowsN (rowM4 x0 y0 x1 y1 x2 y2) lo k) ++ rowP x (filN (inM x0 y0 x1 y1 x2 y2 x) fr j)).length ∧ v = .slice va n vc ∧ yv = .int .i64 (fr + j) ∧ OwnF wB.heap.size wr (.slice va n vc) n (flat ((rowsN (rowM4 x0 y0 x1 y1 x2 y2) lo k) ++ rowP x (filN (inM x0 y0 x1 y1 x2 y2 x) fr j))) ∧ Below wB.heap.size wB wr) (fun _ yv _ => (up + 1 - intOf yv).toNat)
            case atStart => exact ⟨0, n, va, vc, by omega, HN0.out, rfl, by go_num, hO0, hbel⟩
            case round =>
              clear hO0 HN0 hbel HO HN
              obtain ⟨j, n, va, vc, hj, hn, rfl, rfl, hown, hbel⟩ := hrel
              have HO := Lib.hid hown
              have HN := Lib.hid hn
              by_cases hle2 : fr + (j : Int) ≤ up
              · have hys : Sml (fr + (j : Int)) := by unfold Sml; omega
                have hNB : n ≤ 4100000 := by
                  have h1 := rowsN_len (rowM4 x0 y0 x1 y1 x2 y2) lo 2001 HRL.out k
                  have h2 : k * 2001 ≤ 2000 * 2001 := Nat.mul_le_mul_right _ HXX.out.2.2.2.2
                  have h3 := filN_len (inM x0 y0 x1 y1 x2 y2 x) fr j
                  rw [hn, List.length_append, rowP_len]
                  omega
                have HNB := Lib.hid hNB
                have hj1 : fr + ((j + 1 : Nat) : Int) = fr + (j : Int) + 1 := by omega
                have hjj : ((j + 1 : Nat) : Int) ≤ up - fr + 1 := by omega
                have hfs : filN (inM x0 y0 x1 y1 x2 y2 x) fr (j + 1) = filN (inM x0 y0 x1 y1 x2 y2 x) fr j ++ (if inM x0 y0 x1 y1 x2 y2 x (fr + (j : Int)) then [fr + (j : Int)] else []) := rfl
                have hwy : IntKind.i64.wrap (fr + (j : Int) + 1) = fr + (j : Int) + 1 := by rw [IntKind.wrap_i64]; omega
                obtain ⟨y, hy⟩ : ∃ y, fr + (j : Int) = y := ⟨_, rfl⟩
                rw [hy] at hys hj1 hfs hwy hle2 ⊢
                obtain ⟨q1, q2, q3, q4, q5, q6⟩ := HB.out
                have hxs := HXX.out.1
                have d0 := sd_sm q1 q2 q3 q4 hxs hys
                have d1 := sd_sm q3 q4 q5 q6 hxs hys
                have d2 := sd_sm q5 q6 q1 q2 hxs hys
                have hiy : inM x0 y0 x1 y1 x2 y2 x y = (decide (0 < tnI x0 y0 x1 y1 x2 y2 * sd x0 y0 x1 y1 x y) && decide (0 < tnI x0 y0 x1 y1 x2 y2 * sd x1 y1 x2 y2 x y) && decide (0 < tnI x0 y0 x1 y1 x2 y2 * sd x2 y2 x0 y0 x y)) := rfl
                rw [HTT.out] at hiy
                obtain ⟨S0, hS0⟩ : ∃ S, sd x0 y0 x1 y1 x y = S := ⟨_, rfl⟩
                obtain ⟨S1, hS1⟩ : ∃ S, sd x1 y1 x2 y2 x y = S := ⟨_, rfl⟩
                obtain ⟨S2, hS2⟩ : ∃ S, sd x2 y2 x0 y0 x y = S := ⟨_, rfl⟩
                have HT0 : Hid (∀ w, Calls Try.prog 70 #[.agg #[.int .i64 x0, .int .i64 y0, .int .i64 x1, .int .i64 y1, .int .i64 x2, .int .i64 y2], .int .i64 0, .agg #[.int .i64 x, .int .i64 y]] w fun e w' => e = .returned (.int .i64 S0) ∧ Below w.heap.size w w') := fun w => by rw [← hS0]; exact l04Side_0 x0 y0 x1 y1 x2 y2 x y w q1 q2 q3 q4 q5 q6 hxs.q4 hys.q4
                have HT1 : Hid (∀ w, Calls Try.prog 70 #[.agg #[.int .i64 x0, .int .i64 y0, .int .i64 x1, .int .i64 y1, .int .i64 x2, .int .i64 y2], .int .i64 1, .agg #[.int .i64 x, .int .i64 y]] w fun e w' => e = .returned (.int .i64 S1) ∧ Below w.heap.size w w') := fun w => by rw [← hS1]; exact l04Side_1 x0 y0 x1 y1 x2 y2 x y w q1 q2 q3 q4 q5 q6 hxs.q4 hys.q4
                have HT2 : Hid (∀ w, Calls Try.prog 70 #[.agg #[.int .i64 x0, .int .i64 y0, .int .i64 x1, .int .i64 y1, .int .i64 x2, .int .i64 y2], .int .i64 2, .agg #[.int .i64 x, .int .i64 y]] w fun e w' => e = .returned (.int .i64 S2) ∧ Below w.heap.size w w') := fun w => by rw [← hS2]; exact l04Side_2 x0 y0 x1 y1 x2 y2 x y w q1 q2 q3 q4 q5 q6 hxs.q4 hys.q4
                rw [hS0, hS1, hS2] at hiy
                rw [hS0] at d0
                rw [hS1] at d1
                rw [hS2] at d2
                have wm0 : IntKind.i64.wrap (-S0) = -S0 := by rw [IntKind.wrap_i64]; omega
                have hA0 : (-1 : Int) * S0 = -S0 := by omega
                rw [hA0] at hiy
                obtain ⟨m0, hm0⟩ : ∃ m, -S0 = m := ⟨_, rfl⟩
                rw [hm0] at hiy wm0 hA0
                have wm1 : IntKind.i64.wrap (-S1) = -S1 := by rw [IntKind.wrap_i64]; omega
                have hA1 : (-1 : Int) * S1 = -S1 := by omega
                rw [hA1] at hiy
                obtain ⟨m1, hm1⟩ : ∃ m, -S1 = m := ⟨_, rfl⟩
                rw [hm1] at hiy wm1 hA1
                have wm2 : IntKind.i64.wrap (-S2) = -S2 := by rw [IntKind.wrap_i64]; omega
                have hA2 : (-1 : Int) * S2 = -S2 := by omega
                rw [hA2] at hiy
                obtain ⟨m2, hm2⟩ : ∃ m, -S2 = m := ⟨_, rfl⟩
                rw [hm2] at hiy wm2 hA2
                have HIY := Lib.hid hiy
                have HY := Lib.hid (And.intro hj1 (And.intro hjj hfs))
                clear hown hn hj hys hNB hj1 hjj hfs hy hS0 hS1 hS2 hiy q1 q2 q3 q4 q5 q6 hxs d0 d1 d2
                go_upto_region 18 with fail
                obtain ⟨g, hg⟩ : ∃ g, wr.heap.size = g := ⟨_, rfl⟩
                obtain ⟨wC, hwC⟩ : ∃ wC, wC = wr.alloc (.cells #[.int .i64 x, .int .i64 y] 25) := ⟨_, rfl⟩
                rw [← hwC, hg]
                have hkg : Bk2 wC g x y := by rw [hwC, ← hg]; exact bk2_new wr x y _
                have hOC := HO.out.below ((Below.refl _ _).alloc (Nat.le_refl _) (.cells #[.int .i64 x, .int .i64 y] 25))
                rw [← hwC] at hOC
                have hbC : Below wB.heap.size wB wC := by rw [hwC]; exact hbel.alloc hbel.size _
                have HC : Hid (∀ W, Below wC.heap.size wC W → Bk6 W w.heap.size x0 y0 x1 y1 x2 y2 ∧ Bk2 W g x y ∧ Below wB.heap.size wB W ∧ OwnF wB.heap.size W (.slice va n vc) n (flat ((rowsN (rowM4 x0 y0 x1 y1 x2 y2) lo k) ++ rowP x (filN (inM x0 y0 x1 y1 x2 y2 x) fr j)))) := fun W hW => ⟨HX.out _ (below_after hW hbC), hkg.below hW, below_after hW hbC, hOC.below hW⟩
                have hbz := Below.refl wC.heap.size wC
                clear hwC hg hkg hOC hbC hbel
                by_cases p0 : 0 < m0
                · by_cases p1 : 0 < m1
                  · by_cases p2 : 0 < m2
                    · skip
                      have hall : inM x0 y0 x1 y1 x2 y2 x y = true := by rw [HIY.out]; simp [p0, p1, p2]
                      have HFS : Hid (filN (inM x0 y0 x1 y1 x2 y2 x) fr (j + 1) = filN (inM x0 y0 x1 y1 x2 y2 x) fr j ++ [y]) := by
                        have h1 := HY.out.2.2
                        rw [hall] at h1
                        show filN (inM x0 y0 x1 y1 x2 y2 x) fr (j + 1) = filN (inM x0 y0 x1 y1 x2 y2 x) fr j ++ [y]
                        simpa using h1
                      clear hall
                      obtain ⟨⟨⟨i0, i1, i2, i3, i4, i5⟩, _, iz⟩, ⟨⟨c0, c1⟩, _, cz⟩, _⟩ := HC.out _ hbz
                      go_wp2_with fail
                      go_at_call 70
                      refine (HT0.out _).mono ?_
                      rintro e wz0 ⟨rfl, bz⟩
                      have hbz := below_after bz hbz
                      clear i0 i1 i2 i3 i4 i5 iz c0 c1 cz bz
                      obtain ⟨⟨⟨i0, i1, i2, i3, i4, i5⟩, _, iz⟩, ⟨⟨c0, c1⟩, _, cz⟩, _⟩ := HC.out _ hbz
                      go_wp2_with fail
                      go_at_call 70
                      refine (HT1.out _).mono ?_
                      rintro e wz1 ⟨rfl, bz⟩
                      have hbz := below_after bz hbz
                      clear i0 i1 i2 i3 i4 i5 iz c0 c1 cz bz
                      obtain ⟨⟨⟨i0, i1, i2, i3, i4, i5⟩, _, iz⟩, ⟨⟨c0, c1⟩, _, cz⟩, _⟩ := HC.out _ hbz
                      go_wp2_with fail
                      go_at_call 70
                      refine (HT2.out _).mono ?_
                      rintro e wz2 ⟨rfl, bz⟩
                      have hbz := below_after bz hbz
                      clear i0 i1 i2 i3 i4 i5 iz c0 c1 cz bz
                      obtain ⟨_, ⟨⟨c0, c1⟩, _, cz⟩, hbw, hOw⟩ := HC.out _ hbz
                      have HO2 := Lib.hid (hOw.below ((Below.refl _ _).alloc (Nat.le_refl _) (.cells #[.int .i64 x, .int .i64 y] 25)))
                      have HBF : Hid (Below wB.heap.size wB (wz2.alloc (.cells #[.int .i64 x, .int .i64 y] 25))) := hbw.alloc hbw.size _
                      clear hOw hbw hbz
                      go_wp2_with (at_builtin; refine wpList_app_F1 wB rfl _ _ rfl HO2.out (a0 := x) (a1 := y) ?c0 ?c1 HBF.out rfl rfl (by have := HNB.out; omega) ?_)
                      case c0 => go_cell
                      case c1 => go_cell
                      intro v' w' ho hb
                      have hrj : ((rowsN (rowM4 x0 y0 x1 y1 x2 y2) lo k) ++ rowP x (filN (inM x0 y0 x1 y1 x2 y2 x) fr (j + 1))) = ((rowsN (rowM4 x0 y0 x1 y1 x2 y2) lo k) ++ rowP x (filN (inM x0 y0 x1 y1 x2 y2 x) fr j)) ++ [(x, y)] := by rw [HFS.out]; unfold rowP; rw [List.map_append, ← List.append_assoc]; rfl
                      have ho' : OwnF wB.heap.size w' v' (n + 1) (flat ((rowsN (rowM4 x0 y0 x1 y1 x2 y2) lo k) ++ rowP x (filN (inM x0 y0 x1 y1 x2 y2 x) fr (j + 1)))) := by rw [hrj, flat_append]; exact ho
                      have hn' : n + 1 = ((rowsN (rowM4 x0 y0 x1 y1 x2 y2) lo k) ++ rowP x (filN (inM x0 y0 x1 y1 x2 y2 x) fr (j + 1))).length := by rw [hrj, List.length_append, ← HN.out]; rfl
                      obtain ⟨va', vc', rfl, _⟩ := own_viewF ho'
                      have HO4 := Lib.hid (And.intro ho' hn')
                      clear ho ho' hn' hrj
                      go_wp2
                      go_roundw
                      case rel => exact ⟨j + 1, n + 1, va', vc', HY.out.2.1, HO4.out.2, rfl, by rw [HY.out.1], HO4.out.1, hb⟩
                      case measure => simp [intOf]; omega
                    · skip
                      have hpn : decide (0 < m2) = false := by simpa using p2
                      have hnot : inM x0 y0 x1 y1 x2 y2 x y = false := by rw [HIY.out, hpn]; simp
                      have HFS : Hid (filN (inM x0 y0 x1 y1 x2 y2 x) fr (j + 1) = filN (inM x0 y0 x1 y1 x2 y2 x) fr j) := by
                        have h1 := HY.out.2.2
                        rw [hnot] at h1
                        show filN (inM x0 y0 x1 y1 x2 y2 x) fr (j + 1) = filN (inM x0 y0 x1 y1 x2 y2 x) fr j
                        simpa using h1
                      clear hnot hpn
                      obtain ⟨⟨⟨i0, i1, i2, i3, i4, i5⟩, _, iz⟩, ⟨⟨c0, c1⟩, _, cz⟩, _⟩ := HC.out _ hbz
                      go_wp2_with fail
                      go_at_call 70
                      refine (HT0.out _).mono ?_
                      rintro e wz0 ⟨rfl, bz⟩
                      have hbz := below_after bz hbz
                      clear i0 i1 i2 i3 i4 i5 iz c0 c1 cz bz
                      obtain ⟨⟨⟨i0, i1, i2, i3, i4, i5⟩, _, iz⟩, ⟨⟨c0, c1⟩, _, cz⟩, _⟩ := HC.out _ hbz
                      go_wp2_with fail
                      go_at_call 70
                      refine (HT1.out _).mono ?_
                      rintro e wz1 ⟨rfl, bz⟩
                      have hbz := below_after bz hbz
                      clear i0 i1 i2 i3 i4 i5 iz c0 c1 cz bz
                      obtain ⟨⟨⟨i0, i1, i2, i3, i4, i5⟩, _, iz⟩, ⟨⟨c0, c1⟩, _, cz⟩, _⟩ := HC.out _ hbz
                      go_wp2_with fail
                      go_at_call 70
                      refine (HT2.out _).mono ?_
                      rintro e wz2 ⟨rfl, bz⟩
                      have hbz := below_after bz hbz
                      clear i0 i1 i2 i3 i4 i5 iz c0 c1 cz bz
                      have hbe := HC.out _ hbz
                      have HBE := Lib.hid (And.intro hbe.2.2.1 hbe.2.2.2)
                      clear hbe hbz
                      go_wp2
                      go_roundw
                      case rel => exact ⟨j + 1, n, va, vc, HY.out.2.1, by rw [HFS.out]; exact HN.out, rfl, by rw [HY.out.1], by rw [HFS.out]; exact HBE.out.2, HBE.out.1⟩
                      case measure => simp [intOf]; omega
                  · skip
                    have hpn : decide (0 < m1) = false := by simpa using p1
                    have hnot : inM x0 y0 x1 y1 x2 y2 x y = false := by rw [HIY.out, hpn]; simp
                    have HFS : Hid (filN (inM x0 y0 x1 y1 x2 y2 x) fr (j + 1) = filN (inM x0 y0 x1 y1 x2 y2 x) fr j) := by
                      have h1 := HY.out.2.2
                      rw [hnot] at h1
                      show filN (inM x0 y0 x1 y1 x2 y2 x) fr (j + 1) = filN (inM x0 y0 x1 y1 x2 y2 x) fr j
                      simpa using h1
                    clear hnot hpn
                    obtain ⟨⟨⟨i0, i1, i2, i3, i4, i5⟩, _, iz⟩, ⟨⟨c0, c1⟩, _, cz⟩, _⟩ := HC.out _ hbz
                    go_wp2_with fail
                    go_at_call 70
                    refine (HT0.out _).mono ?_
                    rintro e wz0 ⟨rfl, bz⟩
                    have hbz := below_after bz hbz
                    clear i0 i1 i2 i3 i4 i5 iz c0 c1 cz bz
                    obtain ⟨⟨⟨i0, i1, i2, i3, i4, i5⟩, _, iz⟩, ⟨⟨c0, c1⟩, _, cz⟩, _⟩ := HC.out _ hbz
                    go_wp2_with fail
                    go_at_call 70
                    refine (HT1.out _).mono ?_
                    rintro e wz1 ⟨rfl, bz⟩
                    have hbz := below_after bz hbz
                    clear i0 i1 i2 i3 i4 i5 iz c0 c1 cz bz
                    have hbe := HC.out _ hbz
                    have HBE := Lib.hid (And.intro hbe.2.2.1 hbe.2.2.2)
                    clear hbe hbz
                    go_wp2
                    go_roundw
                    case rel => exact ⟨j + 1, n, va, vc, HY.out.2.1, by rw [HFS.out]; exact HN.out, rfl, by rw [HY.out.1], by rw [HFS.out]; exact HBE.out.2, HBE.out.1⟩
                    case measure => simp [intOf]; omega
                · skip
                  have hpn : decide (0 < m0) = false := by simpa using p0
                  have hnot : inM x0 y0 x1 y1 x2 y2 x y = false := by rw [HIY.out, hpn]; simp
                  have HFS : Hid (filN (inM x0 y0 x1 y1 x2 y2 x) fr (j + 1) = filN (inM x0 y0 x1 y1 x2 y2 x) fr j) := by
                    have h1 := HY.out.2.2
                    rw [hnot] at h1
                    show filN (inM x0 y0 x1 y1 x2 y2 x) fr (j + 1) = filN (inM x0 y0 x1 y1 x2 y2 x) fr j
                    simpa using h1
                  clear hnot hpn
                  obtain ⟨⟨⟨i0, i1, i2, i3, i4, i5⟩, _, iz⟩, ⟨⟨c0, c1⟩, _, cz⟩, _⟩ := HC.out _ hbz
                  go_wp2_with fail
                  go_at_call 70
                  refine (HT0.out _).mono ?_
                  rintro e wz0 ⟨rfl, bz⟩
                  have hbz := below_after bz hbz
                  clear i0 i1 i2 i3 i4 i5 iz c0 c1 cz bz
                  have hbe := HC.out _ hbz
                  have HBE := Lib.hid (And.intro hbe.2.2.1 hbe.2.2.2)
                  clear hbe hbz
                  go_wp2
                  go_roundw
                  case rel => exact ⟨j + 1, n, va, vc, HY.out.2.1, by rw [HFS.out]; exact HN.out, rfl, by rw [HY.out.1], by rw [HFS.out]; exact HBE.out.2, HBE.out.1⟩
                  case measure => simp [intOf]; omega
              · obtain ⟨N1, hN1⟩ : ∃ m : Nat, up - fr = (m : Int) := ⟨(up - fr).toNat, by omega⟩
                have hjN : j = (up - fr + 1).toNat := by omega
                have hR : rowsN (rowM4 x0 y0 x1 y1 x2 y2) lo (k + 1) = ((rowsN (rowM4 x0 y0 x1 y1 x2 y2) lo k) ++ rowP x (filN (inM x0 y0 x1 y1 x2 y2 x) fr j)) := by rw [HXX.out.2.1, HR4.out, hjN]
                have HR := Lib.hid hR
                clear hR hjN hN1
                go_wp2
                go_roundw
                case rel => exact ⟨k + 1, n, va, vc, HXX.out.2.2.2.1, by rw [HR.out]; exact HN.out, rfl, by rw [HXX.out.2.2.1], by rw [HR.out]; exact HO.out, hbel⟩
                case measure => simp [intOf]; omega
          · have hkK : k = (hi - lo + 1).toNat := by omega
            have hfin : (rowsN (rowM4 x0 y0 x1 y1 x2 y2) lo k) = L := by rw [hkK]; exact HLM.out
            have HF := Lib.hid hfin
            clear hfin hkK
            go_wp2
            refine bodyPost_ret (v := .tuple #[.slice va n vc, .int .i64 0]) (by simp (maxDischargeDepth := 8) [results, Try.results26, go_sem, *]) rfl ?_
            exact ⟨_, rfl, own_up (by have h1 := HO.out; have h2 := HN.out; rw [HF.out] at h1 h2; rw [← h2]; exact h1) HBW.out.size, below_after hbel HBW.out⟩
  · skip
    go_upto_region 9 with fail
    rw [← hwq]
    (try rw [hG])
    clear hwq hG hd
    go_cut [6, 7] (fun v6 v7 wx => v6 = .int .i64 (mn3 x0 x1 x2) ∧ v7 = .int .i64 (mx3 x0 x1 x2) ∧ Below wq.heap.size wq wx)
    case first =>
      refine wp_region_held_drew (S := fun W => Below wq.heap.size wq W) (by kernel_rfl) ?_ (fun hHeld => ?_); focus ((try dsimp only); exact (Below.refl _ _).drew)
      have hHeld : Below wq.heap.size wq _ := hHeld
      obtain ⟨wD, hwD⟩ : ∃ wD, wq.drew = wD := ⟨_, rfl⟩
      rw [hwD] at hHeld ⊢
      clear hwD
      (refine wpAnyH_take (i := 0) (v := ?_) rfl (by kernel_rfl) (by kernel_rfl) (by kernel_rfl) (fun _ _ _ h => h) (Or.inl ⟨rfl, ?_⟩) (by assumption) ?_; rotate_left; focus (intro W hSw; (try dsimp only at hSw); obtain ⟨⟨i0, i1, i2, i3, i4, i5⟩, _, iz⟩ := HX.out _ (below_after hSw HBB.out); go_simp; try (with_reducible rfl))); (try simp only [Act.put, List.getElem_toArray, List.getElem_cons_succ, List.getElem_cons_zero, List.setIfInBounds_toArray, List.set_cons_zero, List.set_cons_succ])
      (refine wpAnyH_take (i := 1) (v := ?_) rfl (by kernel_rfl) (by kernel_rfl) (by kernel_rfl) (fun _ _ _ h => h) (Or.inl ⟨rfl, ?_⟩) (by assumption) ?_; rotate_left; focus (intro W hSw; (try dsimp only at hSw); obtain ⟨⟨i0, i1, i2, i3, i4, i5⟩, _, iz⟩ := HX.out _ (below_after hSw HBB.out); go_simp; try (with_reducible rfl))); (try simp only [Act.put, List.getElem_toArray, List.getElem_cons_succ, List.getElem_cons_zero, List.setIfInBounds_toArray, List.set_cons_zero, List.set_cons_succ])
      (refine wpAnyH_take (i := 2) (v := ?_) rfl (by kernel_rfl) (by kernel_rfl) (by kernel_rfl) (fun _ _ _ h => h) (Or.inl ⟨rfl, ?_⟩) (by assumption) ?_; rotate_left; focus (intro W hSw; (try dsimp only at hSw); obtain ⟨⟨i0, i1, i2, i3, i4, i5⟩, _, iz⟩ := HX.out _ (below_after hSw HBB.out); go_simp; try (with_reducible rfl))); (try simp only [Act.put, List.getElem_toArray, List.getElem_cons_succ, List.getElem_cons_zero, List.setIfInBounds_toArray, List.set_cons_zero, List.set_cons_succ])
      (refine wpAnyH_take (i := 3) (v := ?_) rfl (by kernel_rfl) (by kernel_rfl) (by kernel_rfl) (fun _ _ _ h => h) (Or.inl ⟨rfl, ?_⟩) (by assumption) ?_; rotate_left; focus (intro W hSw; (try dsimp only at hSw); obtain ⟨⟨i0, i1, i2, i3, i4, i5⟩, _, iz⟩ := HX.out _ (below_after hSw HBB.out); go_simp; try (with_reducible rfl))); (try simp only [Act.put, List.getElem_toArray, List.getElem_cons_succ, List.getElem_cons_zero, List.setIfInBounds_toArray, List.set_cons_zero, List.set_cons_succ])
      (refine wpAnyH_take (i := 4) (v := ?_) rfl (by kernel_rfl) (by kernel_rfl) (by kernel_rfl) (fun _ _ _ h => h) (Or.inl ⟨rfl, ?_⟩) (by assumption) ?_; rotate_left; focus (intro W hSw; (try dsimp only at hSw); obtain ⟨⟨i0, i1, i2, i3, i4, i5⟩, _, iz⟩ := HX.out _ (below_after hSw HBB.out); go_simp; try (with_reducible rfl))); (try simp only [Act.put, List.getElem_toArray, List.getElem_cons_succ, List.getElem_cons_zero, List.setIfInBounds_toArray, List.set_cons_zero, List.set_cons_succ])
      (refine wpAnyH_take (i := 5) (v := ?_) rfl (by kernel_rfl) (by kernel_rfl) (by kernel_rfl) (fun _ _ _ h => h) (Or.inl ⟨rfl, ?_⟩) (by assumption) ?_; rotate_left; focus (intro W hSw; (try dsimp only at hSw); obtain ⟨⟨i0, i1, i2, i3, i4, i5⟩, _, iz⟩ := HX.out _ (below_after hSw HBB.out); go_simp; try (with_reducible rfl))); (try simp only [Act.put, List.getElem_toArray, List.getElem_cons_succ, List.getElem_cons_zero, List.setIfInBounds_toArray, List.set_cons_zero, List.set_cons_succ])
      (refine wpAnyH_take (i := 6) (v := ?_) rfl (by kernel_rfl) (by kernel_rfl) (by kernel_rfl) (fun _ _ _ h => h) (Or.inl ⟨rfl, ?_⟩) (by assumption) ?_; rotate_left; focus (intro W hSw; (try dsimp only at hSw); obtain ⟨⟨i0, i1, i2, i3, i4, i5⟩, _, iz⟩ := HX.out _ (below_after hSw HBB.out); go_simp; try (with_reducible rfl))); (try simp only [Act.put, List.getElem_toArray, List.getElem_cons_succ, List.getElem_cons_zero, List.setIfInBounds_toArray, List.set_cons_zero, List.set_cons_succ])
      (refine wpAnyH_take (i := 7) (v := ?_) rfl (by kernel_rfl) (by kernel_rfl) (by kernel_rfl) (fun _ _ _ h => h) (Or.inl ⟨rfl, ?_⟩) (by assumption) ?_; rotate_left; focus (intro W hSw; (try dsimp only at hSw); obtain ⟨⟨i0, i1, i2, i3, i4, i5⟩, _, iz⟩ := HX.out _ (below_after hSw HBB.out); go_simp; try (with_reducible rfl))); (try simp only [Act.put, List.getElem_toArray, List.getElem_cons_succ, List.getElem_cons_zero, List.setIfInBounds_toArray, List.set_cons_zero, List.set_cons_succ])
      (refine wpAnyH_take (i := 8) (v := ?_) rfl (by kernel_rfl) (by kernel_rfl) (by kernel_rfl) (fun _ _ _ h => h) (Or.inl ⟨rfl, ?_⟩) (by assumption) ?_; rotate_left; focus (intro W hSw; (try dsimp only at hSw); obtain ⟨⟨i0, i1, i2, i3, i4, i5⟩, _, iz⟩ := HX.out _ (below_after hSw HBB.out); go_simp; try (with_reducible rfl))); (try simp only [Act.put, List.getElem_toArray, List.getElem_cons_succ, List.getElem_cons_zero, List.setIfInBounds_toArray, List.set_cons_zero, List.set_cons_succ])
      (refine wpAnyH_take (i := 9) (v := ?_) rfl (by kernel_rfl) (by kernel_rfl) (by kernel_rfl) (fun _ _ _ h => h) (Or.inl ⟨rfl, ?_⟩) (by assumption) ?_; rotate_left; focus (intro W hSw; (try dsimp only at hSw); obtain ⟨⟨i0, i1, i2, i3, i4, i5⟩, _, iz⟩ := HX.out _ (below_after hSw HBB.out); go_simp; try (with_reducible rfl))); (try simp only [Act.put, List.getElem_toArray, List.getElem_cons_succ, List.getElem_cons_zero, List.setIfInBounds_toArray, List.set_cons_zero, List.set_cons_succ])
      (refine wpAnyH_take (i := 10) (v := ?_) rfl (by kernel_rfl) (by kernel_rfl) (by kernel_rfl) (fun _ _ _ h => h) (Or.inl ⟨rfl, ?_⟩) (by assumption) ?_; rotate_left; focus (intro W hSw; (try dsimp only at hSw); obtain ⟨⟨i0, i1, i2, i3, i4, i5⟩, _, iz⟩ := HX.out _ (below_after hSw HBB.out); go_simp; try (with_reducible rfl))); (try simp only [Act.put, List.getElem_toArray, List.getElem_cons_succ, List.getElem_cons_zero, List.setIfInBounds_toArray, List.set_cons_zero, List.set_cons_succ])
      (refine wpAnyH_take (i := 11) (v := ?_) rfl (by kernel_rfl) (by kernel_rfl) (by kernel_rfl) (fun _ _ _ h => h) (Or.inl ⟨rfl, ?_⟩) (by assumption) ?_; rotate_left; focus (intro W hSw; (try dsimp only at hSw); obtain ⟨⟨i0, i1, i2, i3, i4, i5⟩, _, iz⟩ := HX.out _ (below_after hSw HBB.out); go_simp; try (with_reducible rfl))); (try simp only [Act.put, List.getElem_toArray, List.getElem_cons_succ, List.getElem_cons_zero, List.setIfInBounds_toArray, List.set_cons_zero, List.set_cons_succ])
      (refine wpAnyH_take (i := 12) (v := ?_) rfl (by kernel_rfl) (by kernel_rfl) (by kernel_rfl) (fun _ _ _ h => h) (Or.inl ⟨rfl, ?_⟩) (by assumption) ?_; rotate_left; focus (intro W hSw; (try dsimp only at hSw); obtain ⟨⟨i0, i1, i2, i3, i4, i5⟩, _, iz⟩ := HX.out _ (below_after hSw HBB.out); go_simp; try (with_reducible rfl))); (try simp only [Act.put, List.getElem_toArray, List.getElem_cons_succ, List.getElem_cons_zero, List.setIfInBounds_toArray, List.set_cons_zero, List.set_cons_succ])
      (refine wpAnyH_take (i := 13) (v := ?_) rfl (by kernel_rfl) (by kernel_rfl) (by kernel_rfl) (fun _ _ _ h => h) (Or.inl ⟨rfl, ?_⟩) (by assumption) ?_; rotate_left; focus (intro W hSw; (try dsimp only at hSw); obtain ⟨⟨i0, i1, i2, i3, i4, i5⟩, _, iz⟩ := HX.out _ (below_after hSw HBB.out); go_simp; try (with_reducible rfl))); (try simp only [Act.put, List.getElem_toArray, List.getElem_cons_succ, List.getElem_cons_zero, List.setIfInBounds_toArray, List.set_cons_zero, List.set_cons_succ])
      (refine wpAnyH_take (i := 14) (v := ?_) rfl (by kernel_rfl) (by kernel_rfl) (by kernel_rfl) (fun _ _ _ h => h) (Or.inl ⟨rfl, ?_⟩) (by assumption) ?_; rotate_left; focus (intro W hSw; (try dsimp only at hSw); obtain ⟨⟨i0, i1, i2, i3, i4, i5⟩, _, iz⟩ := HX.out _ (below_after hSw HBB.out); go_simp; try (with_reducible rfl))); (try simp only [Act.put, List.getElem_toArray, List.getElem_cons_succ, List.getElem_cons_zero, List.setIfInBounds_toArray, List.set_cons_zero, List.set_cons_succ])
      (refine wpAnyH_take (i := 15) (v := ?_) rfl (by kernel_rfl) (by kernel_rfl) (by kernel_rfl) (fun _ _ _ h => h) (Or.inl ⟨rfl, ?_⟩) (by assumption) ?_; rotate_left; focus (intro W hSw; (try dsimp only at hSw); obtain ⟨⟨i0, i1, i2, i3, i4, i5⟩, _, iz⟩ := HX.out _ (below_after hSw HBB.out); go_simp; try (with_reducible rfl))); (try simp only [Act.put, List.getElem_toArray, List.getElem_cons_succ, List.getElem_cons_zero, List.setIfInBounds_toArray, List.set_cons_zero, List.set_cons_succ])
      (refine wpAnyH_take (i := 16) (v := ?_) rfl (by kernel_rfl) (by kernel_rfl) (by kernel_rfl) (fun _ _ _ h => h) (Or.inl ⟨rfl, ?_⟩) (by assumption) ?_; rotate_left; focus (intro W hSw; (try dsimp only at hSw); obtain ⟨⟨i0, i1, i2, i3, i4, i5⟩, _, iz⟩ := HX.out _ (below_after hSw HBB.out); go_simp; try (with_reducible rfl))); (try simp only [Act.put, List.getElem_toArray, List.getElem_cons_succ, List.getElem_cons_zero, List.setIfInBounds_toArray, List.set_cons_zero, List.set_cons_succ])
      (refine wpAnyH_take (i := 17) (v := ?_) rfl (by kernel_rfl) (by kernel_rfl) (by kernel_rfl) (fun _ _ _ h => h) (Or.inl ⟨rfl, ?_⟩) (by assumption) ?_; rotate_left; focus (intro W hSw; (try dsimp only at hSw); obtain ⟨⟨i0, i1, i2, i3, i4, i5⟩, _, iz⟩ := HX.out _ (below_after hSw HBB.out); go_simp; try (with_reducible rfl))); (try simp only [Act.put, List.getElem_toArray, List.getElem_cons_succ, List.getElem_cons_zero, List.setIfInBounds_toArray, List.set_cons_zero, List.set_cons_succ])
      (refine wpAnyH_take (i := 18) (v := ?_) rfl (by kernel_rfl) (by kernel_rfl) (by kernel_rfl) (fun _ _ _ h => h) (Or.inl ⟨rfl, ?_⟩) (by assumption) ?_; rotate_left; focus (intro W hSw; (try dsimp only at hSw); obtain ⟨⟨i0, i1, i2, i3, i4, i5⟩, _, iz⟩ := HX.out _ (below_after hSw HBB.out); go_simp; try (with_reducible rfl))); (try simp only [Act.put, List.getElem_toArray, List.getElem_cons_succ, List.getElem_cons_zero, List.setIfInBounds_toArray, List.set_cons_zero, List.set_cons_succ])
      (refine wpAnyH_take (i := 19) (v := ?_) rfl (by kernel_rfl) (by kernel_rfl) (by kernel_rfl) (fun _ _ _ h => h) (Or.inl ⟨rfl, ?_⟩) (by assumption) ?_; rotate_left; focus (intro W hSw; (try dsimp only at hSw); obtain ⟨⟨i0, i1, i2, i3, i4, i5⟩, _, iz⟩ := HX.out _ (below_after hSw HBB.out); go_simp; try (with_reducible rfl))); (try simp only [Act.put, List.getElem_toArray, List.getElem_cons_succ, List.getElem_cons_zero, List.setIfInBounds_toArray, List.set_cons_zero, List.set_cons_succ])
      (refine wpAnyH_take (i := 20) (v := ?_) rfl (by kernel_rfl) (by kernel_rfl) (by kernel_rfl) (fun _ _ _ h => h) (Or.inl ⟨rfl, ?_⟩) (by assumption) ?_; rotate_left; focus (intro W hSw; (try dsimp only at hSw); obtain ⟨⟨i0, i1, i2, i3, i4, i5⟩, _, iz⟩ := HX.out _ (below_after hSw HBB.out); go_simp; try (with_reducible rfl))); (try simp only [Act.put, List.getElem_toArray, List.getElem_cons_succ, List.getElem_cons_zero, List.setIfInBounds_toArray, List.set_cons_zero, List.set_cons_succ])
      (refine wpAnyH_take (i := 21) (v := ?_) rfl (by kernel_rfl) (by kernel_rfl) (by kernel_rfl) (fun _ _ _ h => h) (Or.inl ⟨rfl, ?_⟩) (by assumption) ?_; rotate_left; focus (intro W hSw; (try dsimp only at hSw); obtain ⟨⟨i0, i1, i2, i3, i4, i5⟩, _, iz⟩ := HX.out _ (below_after hSw HBB.out); go_simp; try (with_reducible rfl))); (try simp only [Act.put, List.getElem_toArray, List.getElem_cons_succ, List.getElem_cons_zero, List.setIfInBounds_toArray, List.set_cons_zero, List.set_cons_succ])
      refine wpAnyH_done (by kernel_rfl) ?_ _
      go_wp2_with fail
      go_meet
      exact ⟨rfl, rfl, hHeld⟩
    case rest =>
      obtain ⟨rfl, rfl, hbx⟩ := hcut
      obtain ⟨wr1, rfl⟩ : ∃ w2, w2 = wc := ⟨_, rfl⟩
      have HO1 := Lib.hid (HO0.out.below hbx)
      have HBB := Lib.hid (below_after hbx HBB.out)
      clear hbx HO0
      go_upto_region 10 with fail
      go_cut [8, 9] (fun v6 v7 wx => v6 = .int .i64 (mn3 y0 y1 y2) ∧ v7 = .int .i64 (mx3 y0 y1 y2) ∧ Below wr1.heap.size wr1 wx)
      case first =>
        refine wp_region_held_drew (S := fun W => Below wr1.heap.size wr1 W) (by kernel_rfl) ?_ (fun hHeld => ?_); focus ((try dsimp only); exact (Below.refl _ _).drew)
        have hHeld : Below wr1.heap.size wr1 _ := hHeld
        obtain ⟨wD, hwD⟩ : ∃ wD, wr1.drew = wD := ⟨_, rfl⟩
        rw [hwD] at hHeld ⊢
        clear hwD
        (refine wpAnyH_take (i := 0) (v := ?_) rfl (by kernel_rfl) (by kernel_rfl) (by kernel_rfl) (fun _ _ _ h => h) (Or.inl ⟨rfl, ?_⟩) (by assumption) ?_; rotate_left; focus (intro W hSw; (try dsimp only at hSw); obtain ⟨⟨i0, i1, i2, i3, i4, i5⟩, _, iz⟩ := HX.out _ (below_after hSw HBB.out); go_simp; try (with_reducible rfl))); (try simp only [Act.put, List.getElem_toArray, List.getElem_cons_succ, List.getElem_cons_zero, List.setIfInBounds_toArray, List.set_cons_zero, List.set_cons_succ])
        (refine wpAnyH_take (i := 1) (v := ?_) rfl (by kernel_rfl) (by kernel_rfl) (by kernel_rfl) (fun _ _ _ h => h) (Or.inl ⟨rfl, ?_⟩) (by assumption) ?_; rotate_left; focus (intro W hSw; (try dsimp only at hSw); obtain ⟨⟨i0, i1, i2, i3, i4, i5⟩, _, iz⟩ := HX.out _ (below_after hSw HBB.out); go_simp; try (with_reducible rfl))); (try simp only [Act.put, List.getElem_toArray, List.getElem_cons_succ, List.getElem_cons_zero, List.setIfInBounds_toArray, List.set_cons_zero, List.set_cons_succ])
        (refine wpAnyH_take (i := 2) (v := ?_) rfl (by kernel_rfl) (by kernel_rfl) (by kernel_rfl) (fun _ _ _ h => h) (Or.inl ⟨rfl, ?_⟩) (by assumption) ?_; rotate_left; focus (intro W hSw; (try dsimp only at hSw); obtain ⟨⟨i0, i1, i2, i3, i4, i5⟩, _, iz⟩ := HX.out _ (below_after hSw HBB.out); go_simp; try (with_reducible rfl))); (try simp only [Act.put, List.getElem_toArray, List.getElem_cons_succ, List.getElem_cons_zero, List.setIfInBounds_toArray, List.set_cons_zero, List.set_cons_succ])
        (refine wpAnyH_take (i := 3) (v := ?_) rfl (by kernel_rfl) (by kernel_rfl) (by kernel_rfl) (fun _ _ _ h => h) (Or.inl ⟨rfl, ?_⟩) (by assumption) ?_; rotate_left; focus (intro W hSw; (try dsimp only at hSw); obtain ⟨⟨i0, i1, i2, i3, i4, i5⟩, _, iz⟩ := HX.out _ (below_after hSw HBB.out); go_simp; try (with_reducible rfl))); (try simp only [Act.put, List.getElem_toArray, List.getElem_cons_succ, List.getElem_cons_zero, List.setIfInBounds_toArray, List.set_cons_zero, List.set_cons_succ])
        (refine wpAnyH_take (i := 4) (v := ?_) rfl (by kernel_rfl) (by kernel_rfl) (by kernel_rfl) (fun _ _ _ h => h) (Or.inl ⟨rfl, ?_⟩) (by assumption) ?_; rotate_left; focus (intro W hSw; (try dsimp only at hSw); obtain ⟨⟨i0, i1, i2, i3, i4, i5⟩, _, iz⟩ := HX.out _ (below_after hSw HBB.out); go_simp; try (with_reducible rfl))); (try simp only [Act.put, List.getElem_toArray, List.getElem_cons_succ, List.getElem_cons_zero, List.setIfInBounds_toArray, List.set_cons_zero, List.set_cons_succ])
        (refine wpAnyH_take (i := 5) (v := ?_) rfl (by kernel_rfl) (by kernel_rfl) (by kernel_rfl) (fun _ _ _ h => h) (Or.inl ⟨rfl, ?_⟩) (by assumption) ?_; rotate_left; focus (intro W hSw; (try dsimp only at hSw); obtain ⟨⟨i0, i1, i2, i3, i4, i5⟩, _, iz⟩ := HX.out _ (below_after hSw HBB.out); go_simp; try (with_reducible rfl))); (try simp only [Act.put, List.getElem_toArray, List.getElem_cons_succ, List.getElem_cons_zero, List.setIfInBounds_toArray, List.set_cons_zero, List.set_cons_succ])
        (refine wpAnyH_take (i := 6) (v := ?_) rfl (by kernel_rfl) (by kernel_rfl) (by kernel_rfl) (fun _ _ _ h => h) (Or.inl ⟨rfl, ?_⟩) (by assumption) ?_; rotate_left; focus (intro W hSw; (try dsimp only at hSw); obtain ⟨⟨i0, i1, i2, i3, i4, i5⟩, _, iz⟩ := HX.out _ (below_after hSw HBB.out); go_simp; try (with_reducible rfl))); (try simp only [Act.put, List.getElem_toArray, List.getElem_cons_succ, List.getElem_cons_zero, List.setIfInBounds_toArray, List.set_cons_zero, List.set_cons_succ])
        (refine wpAnyH_take (i := 7) (v := ?_) rfl (by kernel_rfl) (by kernel_rfl) (by kernel_rfl) (fun _ _ _ h => h) (Or.inl ⟨rfl, ?_⟩) (by assumption) ?_; rotate_left; focus (intro W hSw; (try dsimp only at hSw); obtain ⟨⟨i0, i1, i2, i3, i4, i5⟩, _, iz⟩ := HX.out _ (below_after hSw HBB.out); go_simp; try (with_reducible rfl))); (try simp only [Act.put, List.getElem_toArray, List.getElem_cons_succ, List.getElem_cons_zero, List.setIfInBounds_toArray, List.set_cons_zero, List.set_cons_succ])
        (refine wpAnyH_take (i := 8) (v := ?_) rfl (by kernel_rfl) (by kernel_rfl) (by kernel_rfl) (fun _ _ _ h => h) (Or.inl ⟨rfl, ?_⟩) (by assumption) ?_; rotate_left; focus (intro W hSw; (try dsimp only at hSw); obtain ⟨⟨i0, i1, i2, i3, i4, i5⟩, _, iz⟩ := HX.out _ (below_after hSw HBB.out); go_simp; try (with_reducible rfl))); (try simp only [Act.put, List.getElem_toArray, List.getElem_cons_succ, List.getElem_cons_zero, List.setIfInBounds_toArray, List.set_cons_zero, List.set_cons_succ])
        (refine wpAnyH_take (i := 9) (v := ?_) rfl (by kernel_rfl) (by kernel_rfl) (by kernel_rfl) (fun _ _ _ h => h) (Or.inl ⟨rfl, ?_⟩) (by assumption) ?_; rotate_left; focus (intro W hSw; (try dsimp only at hSw); obtain ⟨⟨i0, i1, i2, i3, i4, i5⟩, _, iz⟩ := HX.out _ (below_after hSw HBB.out); go_simp; try (with_reducible rfl))); (try simp only [Act.put, List.getElem_toArray, List.getElem_cons_succ, List.getElem_cons_zero, List.setIfInBounds_toArray, List.set_cons_zero, List.set_cons_succ])
        (refine wpAnyH_take (i := 10) (v := ?_) rfl (by kernel_rfl) (by kernel_rfl) (by kernel_rfl) (fun _ _ _ h => h) (Or.inl ⟨rfl, ?_⟩) (by assumption) ?_; rotate_left; focus (intro W hSw; (try dsimp only at hSw); obtain ⟨⟨i0, i1, i2, i3, i4, i5⟩, _, iz⟩ := HX.out _ (below_after hSw HBB.out); go_simp; try (with_reducible rfl))); (try simp only [Act.put, List.getElem_toArray, List.getElem_cons_succ, List.getElem_cons_zero, List.setIfInBounds_toArray, List.set_cons_zero, List.set_cons_succ])
        (refine wpAnyH_take (i := 11) (v := ?_) rfl (by kernel_rfl) (by kernel_rfl) (by kernel_rfl) (fun _ _ _ h => h) (Or.inl ⟨rfl, ?_⟩) (by assumption) ?_; rotate_left; focus (intro W hSw; (try dsimp only at hSw); obtain ⟨⟨i0, i1, i2, i3, i4, i5⟩, _, iz⟩ := HX.out _ (below_after hSw HBB.out); go_simp; try (with_reducible rfl))); (try simp only [Act.put, List.getElem_toArray, List.getElem_cons_succ, List.getElem_cons_zero, List.setIfInBounds_toArray, List.set_cons_zero, List.set_cons_succ])
        (refine wpAnyH_take (i := 12) (v := ?_) rfl (by kernel_rfl) (by kernel_rfl) (by kernel_rfl) (fun _ _ _ h => h) (Or.inl ⟨rfl, ?_⟩) (by assumption) ?_; rotate_left; focus (intro W hSw; (try dsimp only at hSw); obtain ⟨⟨i0, i1, i2, i3, i4, i5⟩, _, iz⟩ := HX.out _ (below_after hSw HBB.out); go_simp; try (with_reducible rfl))); (try simp only [Act.put, List.getElem_toArray, List.getElem_cons_succ, List.getElem_cons_zero, List.setIfInBounds_toArray, List.set_cons_zero, List.set_cons_succ])
        (refine wpAnyH_take (i := 13) (v := ?_) rfl (by kernel_rfl) (by kernel_rfl) (by kernel_rfl) (fun _ _ _ h => h) (Or.inl ⟨rfl, ?_⟩) (by assumption) ?_; rotate_left; focus (intro W hSw; (try dsimp only at hSw); obtain ⟨⟨i0, i1, i2, i3, i4, i5⟩, _, iz⟩ := HX.out _ (below_after hSw HBB.out); go_simp; try (with_reducible rfl))); (try simp only [Act.put, List.getElem_toArray, List.getElem_cons_succ, List.getElem_cons_zero, List.setIfInBounds_toArray, List.set_cons_zero, List.set_cons_succ])
        (refine wpAnyH_take (i := 14) (v := ?_) rfl (by kernel_rfl) (by kernel_rfl) (by kernel_rfl) (fun _ _ _ h => h) (Or.inl ⟨rfl, ?_⟩) (by assumption) ?_; rotate_left; focus (intro W hSw; (try dsimp only at hSw); obtain ⟨⟨i0, i1, i2, i3, i4, i5⟩, _, iz⟩ := HX.out _ (below_after hSw HBB.out); go_simp; try (with_reducible rfl))); (try simp only [Act.put, List.getElem_toArray, List.getElem_cons_succ, List.getElem_cons_zero, List.setIfInBounds_toArray, List.set_cons_zero, List.set_cons_succ])
        (refine wpAnyH_take (i := 15) (v := ?_) rfl (by kernel_rfl) (by kernel_rfl) (by kernel_rfl) (fun _ _ _ h => h) (Or.inl ⟨rfl, ?_⟩) (by assumption) ?_; rotate_left; focus (intro W hSw; (try dsimp only at hSw); obtain ⟨⟨i0, i1, i2, i3, i4, i5⟩, _, iz⟩ := HX.out _ (below_after hSw HBB.out); go_simp; try (with_reducible rfl))); (try simp only [Act.put, List.getElem_toArray, List.getElem_cons_succ, List.getElem_cons_zero, List.setIfInBounds_toArray, List.set_cons_zero, List.set_cons_succ])
        (refine wpAnyH_take (i := 16) (v := ?_) rfl (by kernel_rfl) (by kernel_rfl) (by kernel_rfl) (fun _ _ _ h => h) (Or.inl ⟨rfl, ?_⟩) (by assumption) ?_; rotate_left; focus (intro W hSw; (try dsimp only at hSw); obtain ⟨⟨i0, i1, i2, i3, i4, i5⟩, _, iz⟩ := HX.out _ (below_after hSw HBB.out); go_simp; try (with_reducible rfl))); (try simp only [Act.put, List.getElem_toArray, List.getElem_cons_succ, List.getElem_cons_zero, List.setIfInBounds_toArray, List.set_cons_zero, List.set_cons_succ])
        (refine wpAnyH_take (i := 17) (v := ?_) rfl (by kernel_rfl) (by kernel_rfl) (by kernel_rfl) (fun _ _ _ h => h) (Or.inl ⟨rfl, ?_⟩) (by assumption) ?_; rotate_left; focus (intro W hSw; (try dsimp only at hSw); obtain ⟨⟨i0, i1, i2, i3, i4, i5⟩, _, iz⟩ := HX.out _ (below_after hSw HBB.out); go_simp; try (with_reducible rfl))); (try simp only [Act.put, List.getElem_toArray, List.getElem_cons_succ, List.getElem_cons_zero, List.setIfInBounds_toArray, List.set_cons_zero, List.set_cons_succ])
        (refine wpAnyH_take (i := 18) (v := ?_) rfl (by kernel_rfl) (by kernel_rfl) (by kernel_rfl) (fun _ _ _ h => h) (Or.inl ⟨rfl, ?_⟩) (by assumption) ?_; rotate_left; focus (intro W hSw; (try dsimp only at hSw); obtain ⟨⟨i0, i1, i2, i3, i4, i5⟩, _, iz⟩ := HX.out _ (below_after hSw HBB.out); go_simp; try (with_reducible rfl))); (try simp only [Act.put, List.getElem_toArray, List.getElem_cons_succ, List.getElem_cons_zero, List.setIfInBounds_toArray, List.set_cons_zero, List.set_cons_succ])
        (refine wpAnyH_take (i := 19) (v := ?_) rfl (by kernel_rfl) (by kernel_rfl) (by kernel_rfl) (fun _ _ _ h => h) (Or.inl ⟨rfl, ?_⟩) (by assumption) ?_; rotate_left; focus (intro W hSw; (try dsimp only at hSw); obtain ⟨⟨i0, i1, i2, i3, i4, i5⟩, _, iz⟩ := HX.out _ (below_after hSw HBB.out); go_simp; try (with_reducible rfl))); (try simp only [Act.put, List.getElem_toArray, List.getElem_cons_succ, List.getElem_cons_zero, List.setIfInBounds_toArray, List.set_cons_zero, List.set_cons_succ])
        (refine wpAnyH_take (i := 20) (v := ?_) rfl (by kernel_rfl) (by kernel_rfl) (by kernel_rfl) (fun _ _ _ h => h) (Or.inl ⟨rfl, ?_⟩) (by assumption) ?_; rotate_left; focus (intro W hSw; (try dsimp only at hSw); obtain ⟨⟨i0, i1, i2, i3, i4, i5⟩, _, iz⟩ := HX.out _ (below_after hSw HBB.out); go_simp; try (with_reducible rfl))); (try simp only [Act.put, List.getElem_toArray, List.getElem_cons_succ, List.getElem_cons_zero, List.setIfInBounds_toArray, List.set_cons_zero, List.set_cons_succ])
        (refine wpAnyH_take (i := 21) (v := ?_) rfl (by kernel_rfl) (by kernel_rfl) (by kernel_rfl) (fun _ _ _ h => h) (Or.inl ⟨rfl, ?_⟩) (by assumption) ?_; rotate_left; focus (intro W hSw; (try dsimp only at hSw); obtain ⟨⟨i0, i1, i2, i3, i4, i5⟩, _, iz⟩ := HX.out _ (below_after hSw HBB.out); go_simp; try (with_reducible rfl))); (try simp only [Act.put, List.getElem_toArray, List.getElem_cons_succ, List.getElem_cons_zero, List.setIfInBounds_toArray, List.set_cons_zero, List.set_cons_succ])
        refine wpAnyH_done (by kernel_rfl) ?_ _
        go_wp2_with fail
        go_meet
        exact ⟨rfl, rfl, hHeld⟩
      case rest =>
        obtain ⟨rfl, rfl, hbx⟩ := hcut
        obtain ⟨wr2, rfl⟩ : ∃ w2, w2 = wc := ⟨_, rfl⟩
        have hO0 := HO1.out.below hbx
        have hb0 := below_after hbx HBB.out
        clear hbx HO1 hmn hmx hmn2 hmx2
        obtain ⟨⟨a1, a2, a3, _⟩, ⟨b1, b2, b3, _⟩⟩ := HM.out
        have HR4 : Hid (∀ x, rowM4 x0 y0 x1 y1 x2 y2 x = filN (inM x0 y0 x1 y1 x2 y2 x) (mn3 y0 y1 y2) (mx3 y0 y1 y2 - mn3 y0 y1 y2 + 1).toNat) := fun x => rfl
        have HLM := HLL
        obtain ⟨lo, hlo⟩ : ∃ l, mn3 x0 x1 x2 = l := ⟨_, rfl⟩
        obtain ⟨hi, hhi⟩ : ∃ l, mx3 x0 x1 x2 = l := ⟨_, rfl⟩
        obtain ⟨fr, hfr⟩ : ∃ l, mn3 y0 y1 y2 = l := ⟨_, rfl⟩
        obtain ⟨up, hto⟩ : ∃ l, mx3 y0 y1 y2 = l := ⟨_, rfl⟩
        rw [hlo] at a1 a3 HLM ⊢
        rw [hhi] at a2 a3 HLM ⊢
        rw [hfr] at b1 b3 HR4 ⊢
        rw [hto] at b2 b3 HR4 ⊢
        clear hlo hhi hfr hto
        go_wp2_with fail
        go_loopw [5, 10] (fun v xv wr => ∃ (k n : Nat) (va : Option Addr) (vc : Nat), (k : Int) ≤ hi - lo + 1 ∧ n = (rowsN (rowM4 x0 y0 x1 y1 x2 y2) lo k).length ∧ v = .slice va n vc ∧ xv = .int .i64 (lo + k) ∧ OwnF wB.heap.size wr (.slice va n vc) n (flat (rowsN (rowM4 x0 y0 x1 y1 x2 y2) lo k)) ∧ Below wB.heap.size wB wr) (fun _ xv _ => (hi + 1 - intOf xv).toNat)
        case atStart => exact ⟨0, 0, _, _, by omega, rfl, rfl, by go_num, hO0, hb0⟩
        case round =>
          clear hO0 hb0
          obtain ⟨k, n, va, vc, hk, hn, rfl, rfl, hown, hbel⟩ := hrel
          have HO := Lib.hid hown
          have HN := Lib.hid hn
          clear hown hn
          by_cases hle : lo + (k : Int) ≤ hi
          · have hxs : Sml (lo + (k : Int)) := by unfold Sml; omega
            have hrk1 : rowsN (rowM4 x0 y0 x1 y1 x2 y2) lo (k + 1) = (rowsN (rowM4 x0 y0 x1 y1 x2 y2) lo k) ++ rowP (lo + (k : Int)) (rowM4 x0 y0 x1 y1 x2 y2 (lo + (k : Int))) := rfl
            have hwx : IntKind.i64.wrap (lo + (k : Int) + 1) = lo + (k : Int) + 1 := by rw [IntKind.wrap_i64]; omega
            have hkx : lo + ((k + 1 : Nat) : Int) = lo + (k : Int) + 1 := by omega
            have hkk : ((k + 1 : Nat) : Int) ≤ hi - lo + 1 := by omega
            have hkb : k ≤ 2000 := by omega
            obtain ⟨x, hx⟩ : ∃ x, lo + (k : Int) = x := ⟨_, rfl⟩
            rw [hx] at hle hxs hrk1 hwx hkx ⊢
            have HXX := Lib.hid (And.intro hxs (And.intro hrk1 (And.intro hkx (And.intro hkk hkb))))
            have hxb : -1000 ≤ x ∧ x ≤ 1000 := hxs
            clear hx hxs hrk1 hkx hkk hkb hk
            have hO0 : OwnF wB.heap.size wr (.slice va n vc) n (flat ((rowsN (rowM4 x0 y0 x1 y1 x2 y2) lo k) ++ rowP x (filN (inM x0 y0 x1 y1 x2 y2 x) fr 0))) := by show OwnF _ _ _ _ (flat ((rowsN (rowM4 x0 y0 x1 y1 x2 y2) lo k) ++ [])); rw [List.append_nil]; exact HO.out
            have HN0 : Hid (n = ((rowsN (rowM4 x0 y0 x1 y1 x2 y2) lo k) ++ rowP x (filN (inM x0 y0 x1 y1 x2 y2 x) fr 0)).length) := by show n = ((rowsN (rowM4 x0 y0 x1 y1 x2 y2) lo k) ++ []).length; rw [List.append_nil]; exact HN.out
            go_wp2_with fail
            go_loopw [5, 11] (fun v yv wr => ∃ (j n : Nat) (va : Option Addr) (vc : Nat), (j : Int) ≤ up - fr + 1 ∧ n = ((rowsN (rowM4 x0 y0 x1 y1 x2 y2) lo k) ++ rowP x (filN (inM x0 y0 x1 y1 x2 y2 x) fr j)).length ∧ v = .slice va n vc ∧ yv = .int .i64 (fr + j) ∧ OwnF wB.heap.size wr (.slice va n vc) n (flat ((rowsN (rowM4 x0 y0 x1 y1 x2 y2) lo k) ++ rowP x (filN (inM x0 y0 x1 y1 x2 y2 x) fr j))) ∧ Below wB.heap.size wB wr) (fun _ yv _ => (up + 1 - intOf yv).toNat)
            case atStart => exact ⟨0, n, va, vc, by omega, HN0.out, rfl, by go_num, hO0, hbel⟩
            case round =>
              clear hO0 HN0 hbel HO HN
              obtain ⟨j, n, va, vc, hj, hn, rfl, rfl, hown, hbel⟩ := hrel
              have HO := Lib.hid hown
              have HN := Lib.hid hn
              by_cases hle2 : fr + (j : Int) ≤ up
              · have hys : Sml (fr + (j : Int)) := by unfold Sml; omega
                have hNB : n ≤ 4100000 := by
                  have h1 := rowsN_len (rowM4 x0 y0 x1 y1 x2 y2) lo 2001 HRL.out k
                  have h2 : k * 2001 ≤ 2000 * 2001 := Nat.mul_le_mul_right _ HXX.out.2.2.2.2
                  have h3 := filN_len (inM x0 y0 x1 y1 x2 y2 x) fr j
                  rw [hn, List.length_append, rowP_len]
                  omega
                have HNB := Lib.hid hNB
                have hj1 : fr + ((j + 1 : Nat) : Int) = fr + (j : Int) + 1 := by omega
                have hjj : ((j + 1 : Nat) : Int) ≤ up - fr + 1 := by omega
                have hfs : filN (inM x0 y0 x1 y1 x2 y2 x) fr (j + 1) = filN (inM x0 y0 x1 y1 x2 y2 x) fr j ++ (if inM x0 y0 x1 y1 x2 y2 x (fr + (j : Int)) then [fr + (j : Int)] else []) := rfl
                have hwy : IntKind.i64.wrap (fr + (j : Int) + 1) = fr + (j : Int) + 1 := by rw [IntKind.wrap_i64]; omega
                obtain ⟨y, hy⟩ : ∃ y, fr + (j : Int) = y := ⟨_, rfl⟩
                rw [hy] at hys hj1 hfs hwy hle2 ⊢
                obtain ⟨q1, q2, q3, q4, q5, q6⟩ := HB.out
                have hxs := HXX.out.1
                have d0 := sd_sm q1 q2 q3 q4 hxs hys
                have d1 := sd_sm q3 q4 q5 q6 hxs hys
                have d2 := sd_sm q5 q6 q1 q2 hxs hys
                have hiy : inM x0 y0 x1 y1 x2 y2 x y = (decide (0 < tnI x0 y0 x1 y1 x2 y2 * sd x0 y0 x1 y1 x y) && decide (0 < tnI x0 y0 x1 y1 x2 y2 * sd x1 y1 x2 y2 x y) && decide (0 < tnI x0 y0 x1 y1 x2 y2 * sd x2 y2 x0 y0 x y)) := rfl
                rw [HTT.out] at hiy
                obtain ⟨S0, hS0⟩ : ∃ S, sd x0 y0 x1 y1 x y = S := ⟨_, rfl⟩
                obtain ⟨S1, hS1⟩ : ∃ S, sd x1 y1 x2 y2 x y = S := ⟨_, rfl⟩
                obtain ⟨S2, hS2⟩ : ∃ S, sd x2 y2 x0 y0 x y = S := ⟨_, rfl⟩
                have HT0 : Hid (∀ w, Calls Try.prog 70 #[.agg #[.int .i64 x0, .int .i64 y0, .int .i64 x1, .int .i64 y1, .int .i64 x2, .int .i64 y2], .int .i64 0, .agg #[.int .i64 x, .int .i64 y]] w fun e w' => e = .returned (.int .i64 S0) ∧ Below w.heap.size w w') := fun w => by rw [← hS0]; exact l04Side_0 x0 y0 x1 y1 x2 y2 x y w q1 q2 q3 q4 q5 q6 hxs.q4 hys.q4
                have HT1 : Hid (∀ w, Calls Try.prog 70 #[.agg #[.int .i64 x0, .int .i64 y0, .int .i64 x1, .int .i64 y1, .int .i64 x2, .int .i64 y2], .int .i64 1, .agg #[.int .i64 x, .int .i64 y]] w fun e w' => e = .returned (.int .i64 S1) ∧ Below w.heap.size w w') := fun w => by rw [← hS1]; exact l04Side_1 x0 y0 x1 y1 x2 y2 x y w q1 q2 q3 q4 q5 q6 hxs.q4 hys.q4
                have HT2 : Hid (∀ w, Calls Try.prog 70 #[.agg #[.int .i64 x0, .int .i64 y0, .int .i64 x1, .int .i64 y1, .int .i64 x2, .int .i64 y2], .int .i64 2, .agg #[.int .i64 x, .int .i64 y]] w fun e w' => e = .returned (.int .i64 S2) ∧ Below w.heap.size w w') := fun w => by rw [← hS2]; exact l04Side_2 x0 y0 x1 y1 x2 y2 x y w q1 q2 q3 q4 q5 q6 hxs.q4 hys.q4
                rw [hS0, hS1, hS2] at hiy
                rw [hS0] at d0
                rw [hS1] at d1
                rw [hS2] at d2
                rw [Int.one_mul, Int.one_mul, Int.one_mul] at hiy
                have wm0 : IntKind.i64.wrap S0 = S0 := by rw [IntKind.wrap_i64]; omega
                have wm1 : IntKind.i64.wrap S1 = S1 := by rw [IntKind.wrap_i64]; omega
                have wm2 : IntKind.i64.wrap S2 = S2 := by rw [IntKind.wrap_i64]; omega
                have HIY := Lib.hid hiy
                have HY := Lib.hid (And.intro hj1 (And.intro hjj hfs))
                clear hown hn hj hys hNB hj1 hjj hfs hy hS0 hS1 hS2 hiy q1 q2 q3 q4 q5 q6 hxs d0 d1 d2
                go_upto_region 18 with fail
                obtain ⟨g, hg⟩ : ∃ g, wr.heap.size = g := ⟨_, rfl⟩
                obtain ⟨wC, hwC⟩ : ∃ wC, wC = wr.alloc (.cells #[.int .i64 x, .int .i64 y] 25) := ⟨_, rfl⟩
                rw [← hwC, hg]
                have hkg : Bk2 wC g x y := by rw [hwC, ← hg]; exact bk2_new wr x y _
                have hOC := HO.out.below ((Below.refl _ _).alloc (Nat.le_refl _) (.cells #[.int .i64 x, .int .i64 y] 25))
                rw [← hwC] at hOC
                have hbC : Below wB.heap.size wB wC := by rw [hwC]; exact hbel.alloc hbel.size _
                have HC : Hid (∀ W, Below wC.heap.size wC W → Bk6 W w.heap.size x0 y0 x1 y1 x2 y2 ∧ Bk2 W g x y ∧ Below wB.heap.size wB W ∧ OwnF wB.heap.size W (.slice va n vc) n (flat ((rowsN (rowM4 x0 y0 x1 y1 x2 y2) lo k) ++ rowP x (filN (inM x0 y0 x1 y1 x2 y2 x) fr j)))) := fun W hW => ⟨HX.out _ (below_after hW hbC), hkg.below hW, below_after hW hbC, hOC.below hW⟩
                have hbz := Below.refl wC.heap.size wC
                clear hwC hg hkg hOC hbC hbel
                by_cases p0 : 0 < S0
                · by_cases p1 : 0 < S1
                  · by_cases p2 : 0 < S2
                    · skip
                      have hall : inM x0 y0 x1 y1 x2 y2 x y = true := by rw [HIY.out]; simp [p0, p1, p2]
                      have HFS : Hid (filN (inM x0 y0 x1 y1 x2 y2 x) fr (j + 1) = filN (inM x0 y0 x1 y1 x2 y2 x) fr j ++ [y]) := by
                        have h1 := HY.out.2.2
                        rw [hall] at h1
                        show filN (inM x0 y0 x1 y1 x2 y2 x) fr (j + 1) = filN (inM x0 y0 x1 y1 x2 y2 x) fr j ++ [y]
                        simpa using h1
                      clear hall
                      obtain ⟨⟨⟨i0, i1, i2, i3, i4, i5⟩, _, iz⟩, ⟨⟨c0, c1⟩, _, cz⟩, _⟩ := HC.out _ hbz
                      go_wp2_with fail
                      go_at_call 70
                      refine (HT0.out _).mono ?_
                      rintro e wz0 ⟨rfl, bz⟩
                      have hbz := below_after bz hbz
                      clear i0 i1 i2 i3 i4 i5 iz c0 c1 cz bz
                      obtain ⟨⟨⟨i0, i1, i2, i3, i4, i5⟩, _, iz⟩, ⟨⟨c0, c1⟩, _, cz⟩, _⟩ := HC.out _ hbz
                      go_wp2_with fail
                      go_at_call 70
                      refine (HT1.out _).mono ?_
                      rintro e wz1 ⟨rfl, bz⟩
                      have hbz := below_after bz hbz
                      clear i0 i1 i2 i3 i4 i5 iz c0 c1 cz bz
                      obtain ⟨⟨⟨i0, i1, i2, i3, i4, i5⟩, _, iz⟩, ⟨⟨c0, c1⟩, _, cz⟩, _⟩ := HC.out _ hbz
                      go_wp2_with fail
                      go_at_call 70
                      refine (HT2.out _).mono ?_
                      rintro e wz2 ⟨rfl, bz⟩
                      have hbz := below_after bz hbz
                      clear i0 i1 i2 i3 i4 i5 iz c0 c1 cz bz
                      obtain ⟨_, ⟨⟨c0, c1⟩, _, cz⟩, hbw, hOw⟩ := HC.out _ hbz
                      have HO2 := Lib.hid (hOw.below ((Below.refl _ _).alloc (Nat.le_refl _) (.cells #[.int .i64 x, .int .i64 y] 25)))
                      have HBF : Hid (Below wB.heap.size wB (wz2.alloc (.cells #[.int .i64 x, .int .i64 y] 25))) := hbw.alloc hbw.size _
                      clear hOw hbw hbz
                      go_wp2_with (at_builtin; refine wpList_app_F1 wB rfl _ _ rfl HO2.out (a0 := x) (a1 := y) ?c0 ?c1 HBF.out rfl rfl (by have := HNB.out; omega) ?_)
                      case c0 => go_cell
                      case c1 => go_cell
                      intro v' w' ho hb
                      have hrj : ((rowsN (rowM4 x0 y0 x1 y1 x2 y2) lo k) ++ rowP x (filN (inM x0 y0 x1 y1 x2 y2 x) fr (j + 1))) = ((rowsN (rowM4 x0 y0 x1 y1 x2 y2) lo k) ++ rowP x (filN (inM x0 y0 x1 y1 x2 y2 x) fr j)) ++ [(x, y)] := by rw [HFS.out]; unfold rowP; rw [List.map_append, ← List.append_assoc]; rfl
                      have ho' : OwnF wB.heap.size w' v' (n + 1) (flat ((rowsN (rowM4 x0 y0 x1 y1 x2 y2) lo k) ++ rowP x (filN (inM x0 y0 x1 y1 x2 y2 x) fr (j + 1)))) := by rw [hrj, flat_append]; exact ho
                      have hn' : n + 1 = ((rowsN (rowM4 x0 y0 x1 y1 x2 y2) lo k) ++ rowP x (filN (inM x0 y0 x1 y1 x2 y2 x) fr (j + 1))).length := by rw [hrj, List.length_append, ← HN.out]; rfl
                      obtain ⟨va', vc', rfl, _⟩ := own_viewF ho'
                      have HO4 := Lib.hid (And.intro ho' hn')
                      clear ho ho' hn' hrj
                      go_wp2
                      go_roundw
                      case rel => exact ⟨j + 1, n + 1, va', vc', HY.out.2.1, HO4.out.2, rfl, by rw [HY.out.1], HO4.out.1, hb⟩
                      case measure => simp [intOf]; omega
                    · skip
                      have hpn : decide (0 < S2) = false := by simpa using p2
                      have hnot : inM x0 y0 x1 y1 x2 y2 x y = false := by rw [HIY.out, hpn]; simp
                      have HFS : Hid (filN (inM x0 y0 x1 y1 x2 y2 x) fr (j + 1) = filN (inM x0 y0 x1 y1 x2 y2 x) fr j) := by
                        have h1 := HY.out.2.2
                        rw [hnot] at h1
                        show filN (inM x0 y0 x1 y1 x2 y2 x) fr (j + 1) = filN (inM x0 y0 x1 y1 x2 y2 x) fr j
                        simpa using h1
                      clear hnot hpn
                      obtain ⟨⟨⟨i0, i1, i2, i3, i4, i5⟩, _, iz⟩, ⟨⟨c0, c1⟩, _, cz⟩, _⟩ := HC.out _ hbz
                      go_wp2_with fail
                      go_at_call 70
                      refine (HT0.out _).mono ?_
                      rintro e wz0 ⟨rfl, bz⟩
                      have hbz := below_after bz hbz
                      clear i0 i1 i2 i3 i4 i5 iz c0 c1 cz bz
                      obtain ⟨⟨⟨i0, i1, i2, i3, i4, i5⟩, _, iz⟩, ⟨⟨c0, c1⟩, _, cz⟩, _⟩ := HC.out _ hbz
                      go_wp2_with fail
                      go_at_call 70
                      refine (HT1.out _).mono ?_
                      rintro e wz1 ⟨rfl, bz⟩
                      have hbz := below_after bz hbz
                      clear i0 i1 i2 i3 i4 i5 iz c0 c1 cz bz
                      obtain ⟨⟨⟨i0, i1, i2, i3, i4, i5⟩, _, iz⟩, ⟨⟨c0, c1⟩, _, cz⟩, _⟩ := HC.out _ hbz
                      go_wp2_with fail
                      go_at_call 70
                      refine (HT2.out _).mono ?_
                      rintro e wz2 ⟨rfl, bz⟩
                      have hbz := below_after bz hbz
                      clear i0 i1 i2 i3 i4 i5 iz c0 c1 cz bz
                      have hbe := HC.out _ hbz
                      have HBE := Lib.hid (And.intro hbe.2.2.1 hbe.2.2.2)
                      clear hbe hbz
                      go_wp2
                      go_roundw
                      case rel => exact ⟨j + 1, n, va, vc, HY.out.2.1, by rw [HFS.out]; exact HN.out, rfl, by rw [HY.out.1], by rw [HFS.out]; exact HBE.out.2, HBE.out.1⟩
                      case measure => simp [intOf]; omega
                  · skip
                    have hpn : decide (0 < S1) = false := by simpa using p1
                    have hnot : inM x0 y0 x1 y1 x2 y2 x y = false := by rw [HIY.out, hpn]; simp
                    have HFS : Hid (filN (inM x0 y0 x1 y1 x2 y2 x) fr (j + 1) = filN (inM x0 y0 x1 y1 x2 y2 x) fr j) := by
                      have h1 := HY.out.2.2
                      rw [hnot] at h1
                      show filN (inM x0 y0 x1 y1 x2 y2 x) fr (j + 1) = filN (inM x0 y0 x1 y1 x2 y2 x) fr j
                      simpa using h1
                    clear hnot hpn
                    obtain ⟨⟨⟨i0, i1, i2, i3, i4, i5⟩, _, iz⟩, ⟨⟨c0, c1⟩, _, cz⟩, _⟩ := HC.out _ hbz
                    go_wp2_with fail
                    go_at_call 70
                    refine (HT0.out _).mono ?_
                    rintro e wz0 ⟨rfl, bz⟩
                    have hbz := below_after bz hbz
                    clear i0 i1 i2 i3 i4 i5 iz c0 c1 cz bz
                    obtain ⟨⟨⟨i0, i1, i2, i3, i4, i5⟩, _, iz⟩, ⟨⟨c0, c1⟩, _, cz⟩, _⟩ := HC.out _ hbz
                    go_wp2_with fail
                    go_at_call 70
                    refine (HT1.out _).mono ?_
                    rintro e wz1 ⟨rfl, bz⟩
                    have hbz := below_after bz hbz
                    clear i0 i1 i2 i3 i4 i5 iz c0 c1 cz bz
                    have hbe := HC.out _ hbz
                    have HBE := Lib.hid (And.intro hbe.2.2.1 hbe.2.2.2)
                    clear hbe hbz
                    go_wp2
                    go_roundw
                    case rel => exact ⟨j + 1, n, va, vc, HY.out.2.1, by rw [HFS.out]; exact HN.out, rfl, by rw [HY.out.1], by rw [HFS.out]; exact HBE.out.2, HBE.out.1⟩
                    case measure => simp [intOf]; omega
                · skip
                  have hpn : decide (0 < S0) = false := by simpa using p0
                  have hnot : inM x0 y0 x1 y1 x2 y2 x y = false := by rw [HIY.out, hpn]; simp
                  have HFS : Hid (filN (inM x0 y0 x1 y1 x2 y2 x) fr (j + 1) = filN (inM x0 y0 x1 y1 x2 y2 x) fr j) := by
                    have h1 := HY.out.2.2
                    rw [hnot] at h1
                    show filN (inM x0 y0 x1 y1 x2 y2 x) fr (j + 1) = filN (inM x0 y0 x1 y1 x2 y2 x) fr j
                    simpa using h1
                  clear hnot hpn
                  obtain ⟨⟨⟨i0, i1, i2, i3, i4, i5⟩, _, iz⟩, ⟨⟨c0, c1⟩, _, cz⟩, _⟩ := HC.out _ hbz
                  go_wp2_with fail
                  go_at_call 70
                  refine (HT0.out _).mono ?_
                  rintro e wz0 ⟨rfl, bz⟩
                  have hbz := below_after bz hbz
                  clear i0 i1 i2 i3 i4 i5 iz c0 c1 cz bz
                  have hbe := HC.out _ hbz
                  have HBE := Lib.hid (And.intro hbe.2.2.1 hbe.2.2.2)
                  clear hbe hbz
                  go_wp2
                  go_roundw
                  case rel => exact ⟨j + 1, n, va, vc, HY.out.2.1, by rw [HFS.out]; exact HN.out, rfl, by rw [HY.out.1], by rw [HFS.out]; exact HBE.out.2, HBE.out.1⟩
                  case measure => simp [intOf]; omega
              · obtain ⟨N1, hN1⟩ : ∃ m : Nat, up - fr = (m : Int) := ⟨(up - fr).toNat, by omega⟩
                have hjN : j = (up - fr + 1).toNat := by omega
                have hR : rowsN (rowM4 x0 y0 x1 y1 x2 y2) lo (k + 1) = ((rowsN (rowM4 x0 y0 x1 y1 x2 y2) lo k) ++ rowP x (filN (inM x0 y0 x1 y1 x2 y2 x) fr j)) := by rw [HXX.out.2.1, HR4.out, hjN]
                have HR := Lib.hid hR
                clear hR hjN hN1
                go_wp2
                go_roundw
                case rel => exact ⟨k + 1, n, va, vc, HXX.out.2.2.2.1, by rw [HR.out]; exact HN.out, rfl, by rw [HXX.out.2.2.1], by rw [HR.out]; exact HO.out, hbel⟩
                case measure => simp [intOf]; omega
          · have hkK : k = (hi - lo + 1).toNat := by omega
            have hfin : (rowsN (rowM4 x0 y0 x1 y1 x2 y2) lo k) = L := by rw [hkK]; exact HLM.out
            have HF := Lib.hid hfin
            clear hfin hkK
            go_wp2
            refine bodyPost_ret (v := .tuple #[.slice va n vc, .int .i64 0]) (by simp (maxDischargeDepth := 8) [results, Try.results26, go_sem, *]) rfl ?_
            exact ⟨_, rfl, own_up (by have h1 := HO.out; have h2 := HN.out; rw [HF.out] at h1 h2; rw [← h2]; exact h1) HBW.out.size, below_after hbel HBW.out⟩
set_option maxHeartbeats 4000000 in
theorem spec_InnerPoints_any (x0 y0 x1 y1 x2 y2 : Int) (w : World) : Calls Try.prog 26 #[.agg #[.int .i64 x0, .int .i64 y0, .int .i64 x1, .int .i64 y1, .int .i64 x2, .int .i64 y2]] w fun e w' => ∃ v, e = .returned (.tuple #[v, .int .i64 (ipC x0 y0 x1 y1 x2 y2)]) ∧ OwnF w.heap.size w' v (ipP x0 y0 x1 y1 x2 y2).length (flat (ipP x0 y0 x1 y1 x2 y2)) ∧ Below w.heap.size w w' := by
  cases h : isT x0 y0 x1 y1 x2 y2
  · rw [(ipC_no h).1, (ipC_no h).2]
    have hs20 : w.heap.size < w.heap.size + 1 + 1 := (by omega); have hs30 : w.heap.size < w.heap.size + 1 + 1 + 1 := (by omega); have hs31 : w.heap.size + 1 < w.heap.size + 1 + 1 + 1 := (by omega); have hs40 : w.heap.size < w.heap.size + 1 + 1 + 1 + 1 := (by omega); have hs41 : w.heap.size + 1 < w.heap.size + 1 + 1 + 1 + 1 := (by omega); have hs42 : w.heap.size + 1 + 1 < w.heap.size + 1 + 1 + 1 + 1 := (by omega)
    go_enter Try.func26, Try.ntmps26
    go_wp2_with (first | (go_at_call 62; refine (l04Is_any _ _ _ _ _ _ _).mono ?_; rintro e wn ⟨rfl, hb⟩; first | (have h2 := after_call2 hb hcl hfr hlt (by ((repeat' (first | (with_reducible exact Below.refl _ _) | (with_reducible refine Below.alloc ?_ ?_ _) | (with_reducible refine Below.setCell ?_ ?_ _) | (with_reducible refine Below.drew ?_) | (with_reducible refine below_drewN ?_ _) | (with_reducible assumption) | (with_reducible refine below_after (by with_reducible assumption) ?_) | go_size)); done)); obtain ⟨hclx, hfrx, hltx, hsz⟩ := after_call hb; (try simp only [World.size_alloc, World.size_setCell, World.size_drew] at hclx hfrx hltx hsz); (try (have hszl := Nat.lt_of_succ_le hsz)); obtain ⟨hcl, hfr, hlt⟩ := h2) | (obtain ⟨hcl, hfr, hlt, hsz⟩ := after_call hb; (try simp only [World.size_alloc, World.size_setCell, World.size_drew] at hcl hfr hlt hsz))))
    refine bodyPost_ret (v := .tuple #[.slice none 0 0, .int .i64 1]) (by simp (maxDischargeDepth := 8) [results, Try.results26, go_sem, *]) rfl ?_
    exact ⟨_, rfl, World.ownsRow_nil _ _ _ _, by (repeat' (first | (with_reducible exact Below.refl _ _) | (with_reducible refine Below.alloc ?_ ?_ _) | (with_reducible refine Below.setCell ?_ ?_ _) | (with_reducible refine Below.drew ?_) | (with_reducible refine below_drewN ?_ _) | (with_reducible assumption) | (with_reducible refine below_after (by with_reducible assumption) ?_) | go_size))⟩
  · by_cases k : 1000 < inN x0 y0 x1 y1 x2 y2
    · rw [(ipC_many h k).1, (ipC_many h k).2]
      have HIN : Hid (∀ w, Calls Try.prog 69 #[.agg #[.int .i64 x0, .int .i64 y0, .int .i64 x1, .int .i64 y1, .int .i64 x2, .int .i64 y2]] w fun e w' => e = .returned (.int .i64 (inN x0 y0 x1 y1 x2 y2)) ∧ Below w.heap.size w w') := fun w => l04Inner_tri x0 y0 x1 y1 x2 y2 w h
      obtain ⟨c, hc⟩ : ∃ c, inN x0 y0 x1 y1 x2 y2 = c := ⟨_, rfl⟩
      rw [hc] at HIN k
      clear hc
      have hs20 : w.heap.size < w.heap.size + 1 + 1 := (by omega); have hs30 : w.heap.size < w.heap.size + 1 + 1 + 1 := (by omega); have hs31 : w.heap.size + 1 < w.heap.size + 1 + 1 + 1 := (by omega); have hs40 : w.heap.size < w.heap.size + 1 + 1 + 1 + 1 := (by omega); have hs41 : w.heap.size + 1 < w.heap.size + 1 + 1 + 1 + 1 := (by omega); have hs42 : w.heap.size + 1 + 1 < w.heap.size + 1 + 1 + 1 + 1 := (by omega)
      go_enter Try.func26, Try.ntmps26
      go_wp2_with (first | (go_at_call 62; refine (l04Is_any _ _ _ _ _ _ _).mono ?_; rintro e wn ⟨rfl, hb⟩; first | (have h2 := after_call2 hb hcl hfr hlt (by ((repeat' (first | (with_reducible exact Below.refl _ _) | (with_reducible refine Below.alloc ?_ ?_ _) | (with_reducible refine Below.setCell ?_ ?_ _) | (with_reducible refine Below.drew ?_) | (with_reducible refine below_drewN ?_ _) | (with_reducible assumption) | (with_reducible refine below_after (by with_reducible assumption) ?_) | go_size)); done)); obtain ⟨hclx, hfrx, hltx, hsz⟩ := after_call hb; (try simp only [World.size_alloc, World.size_setCell, World.size_drew] at hclx hfrx hltx hsz); (try (have hszl := Nat.lt_of_succ_le hsz)); obtain ⟨hcl, hfr, hlt⟩ := h2) | (obtain ⟨hcl, hfr, hlt, hsz⟩ := after_call hb; (try simp only [World.size_alloc, World.size_setCell, World.size_drew] at hcl hfr hlt hsz))) | (go_at_call 69; refine (HIN.out _).mono ?_; rintro e wn ⟨rfl, hb⟩; first | (have h2 := after_call2 hb hcl hfr hlt (by ((repeat' (first | (with_reducible exact Below.refl _ _) | (with_reducible refine Below.alloc ?_ ?_ _) | (with_reducible refine Below.setCell ?_ ?_ _) | (with_reducible refine Below.drew ?_) | (with_reducible refine below_drewN ?_ _) | (with_reducible assumption) | (with_reducible refine below_after (by with_reducible assumption) ?_) | go_size)); done)); obtain ⟨hclx, hfrx, hltx, hsz⟩ := after_call hb; (try simp only [World.size_alloc, World.size_setCell, World.size_drew] at hclx hfrx hltx hsz); (try (have hszl := Nat.lt_of_succ_le hsz)); obtain ⟨hcl, hfr, hlt⟩ := h2) | (obtain ⟨hcl, hfr, hlt, hsz⟩ := after_call hb; (try simp only [World.size_alloc, World.size_setCell, World.size_drew] at hcl hfr hlt hsz))))
      refine bodyPost_ret (v := .tuple #[.slice none 0 0, .int .i64 3]) (by simp (maxDischargeDepth := 8) [results, Try.results26, go_sem, *]) rfl ?_
      exact ⟨_, rfl, World.ownsRow_nil _ _ _ _, by (repeat' (first | (with_reducible exact Below.refl _ _) | (with_reducible refine Below.alloc ?_ ?_ _) | (with_reducible refine Below.setCell ?_ ?_ _) | (with_reducible refine Below.drew ?_) | (with_reducible refine below_drewN ?_ _) | (with_reducible assumption) | (with_reducible refine below_after (by with_reducible assumption) ?_) | go_size))⟩
    · rw [(ipC_yes h k).1, (ipC_yes h k).2]
      have hne : sd x0 y0 x1 y1 x2 y2 ≠ 0 := by
        obtain ⟨_, _, _, _, _, _, ha⟩ := isT_iff.1 h
        rw [area_sd] at ha
        intro he
        rw [he] at ha
        exact ha rfl
      exact spec_InnerPoints_in x0 y0 x1 y1 x2 y2 _ _ w h k rfl (rowsM_eq hne)
end Go.Proofs.Ytcgaikedbhdbgaa
