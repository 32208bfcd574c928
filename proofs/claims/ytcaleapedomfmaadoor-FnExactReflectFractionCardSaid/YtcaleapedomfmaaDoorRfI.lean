/-
  ReflectFraction in the program: what lies behind the door (own work).
-/
import Derived.Test.YtcaleapedomfmaaDoorRfM
namespace Go.Proofs.YtcaleapedomfmaaDoor
open Go.ChangeShapes Go.WideShapes Go.ChangeAt Go.RowKit Go.Shelf
set_option linter.unusedVariables false
set_option maxRecDepth 100000
set_option linter.unusedSimpArgs false
set_option maxRecDepth 100000

set_option maxHeartbeats 1600000 in
theorem cl_rf_far (p q r : Nat) (x0 y0 x1 y1 x2 y2 U V D E C X Y : Int) (hR : Rf x0 y0 x1 y1 x2 y2 U V D E C X Y) (a0 a1 : Addr) (W : World) (hs : Snt W a0 a1) (h : allFr [(x0, y0), (x1, y1), (x2, y2)] = true) (hn : nearB x0 y0 x1 y1 = false) (c0 : W.cell? ⟨p, 0, none⟩ = some (.int .i64 x0)) (d0 : W.cell? ⟨p, 1, none⟩ = some (.int .i64 y0)) (c1 : W.cell? ⟨q, 0, none⟩ = some (.int .i64 x1)) (d1 : W.cell? ⟨q, 1, none⟩ = some (.int .i64 y1)) (c2 : W.cell? ⟨r, 0, none⟩ = some (.int .i64 x2)) (d2 : W.cell? ⟨r, 1, none⟩ = some (.int .i64 y2)) :
    Calls Tryd.prog 53 #[.pointer (some ⟨p, 0, none⟩), .pointer (some ⟨q, 0, none⟩), .pointer (some ⟨r, 0, none⟩)] W fun e w' => e = .returned (.tuple #[.agg #[.int .i64 X, .int .i64 Y], .int .i64 C]) ∧ Below W.heap.size W w' := by
  obtain ⟨rfl, rfl, rfl⟩ := hR.2.1 h hn
  have HE := Lib.hid (demE_yes (a0 := a0) (a1 := a1) h)
  have HS := Lib.hid hs
  have HH := Lib.hid h
  obtain ⟨f0, f1, f2⟩ := frs3 h
  have p0 := isFr_pt f0
  have p1 := isFr_pt f1
  have HN : Hid (∀ w, Calls Tryd.prog 44 #[.agg #[.int .i64 x0, .int .i64 y0], .agg #[.int .i64 x1, .int .i64 y1]] w fun e w' => e = .returned (.bool false) ∧ Below w.heap.size w w') := fun w => by
    have := areNear_any x0 y0 x1 y1 w p0 p1
    rw [hn] at this; exact this
  have lp : p < W.heap.size := World.block_lt_of_cell? _ _ c0
  have lq : q < W.heap.size := World.block_lt_of_cell? _ _ c1
  have lr : r < W.heap.size := World.block_lt_of_cell? _ _ c2
  have HX : Hid (∀ w', Below W.heap.size W w' → w'.cell? ⟨p, 0, none⟩ = some (.int .i64 x0) ∧ w'.cell? ⟨p, 1, none⟩ = some (.int .i64 y0) ∧ w'.cell? ⟨q, 0, none⟩ = some (.int .i64 x1) ∧ w'.cell? ⟨q, 1, none⟩ = some (.int .i64 y1) ∧ w'.cell? ⟨r, 0, none⟩ = some (.int .i64 x2) ∧ w'.cell? ⟨r, 1, none⟩ = some (.int .i64 y2)) := fun w' hw => ⟨(hw.cell (p := ⟨p, 0, none⟩) lp).trans c0, (hw.cell (p := ⟨p, 1, none⟩) lp).trans d0, (hw.cell (p := ⟨q, 0, none⟩) lq).trans c1, (hw.cell (p := ⟨q, 1, none⟩) lq).trans d1, (hw.cell (p := ⟨r, 0, none⟩) lr).trans c2, (hw.cell (p := ⟨r, 1, none⟩) lr).trans d2⟩
  clear hs f0 f1 f2 p0 p1 h hn
  go_enter Tryd.func53, Tryd.ntmps53
  go_wp2_with fail
  go_at_call 43
  refine (demand3_any x0 y0 x1 y1 x2 y2 a0 a1 _ _ _ _ HE.out (HS.out.below (by (repeat' (first | (with_reducible exact Below.refl _ _) | (with_reducible refine Below.alloc ?_ ?_ _) | (with_reducible refine Below.setCell ?_ ?_ _) | (with_reducible refine Below.drew ?_) | (with_reducible refine below_drewN ?_ _) | (with_reducible assumption) | (with_reducible refine below_after (by with_reducible assumption) ?_) | go_size)))) (by simp) (by go_cell) (by go_cell) (by go_cell) (by go_cell) (by go_cell) (by go_cell)).mono ?_
  rintro e w1 ⟨rfl, hb⟩
  obtain ⟨wR, hwR⟩ : ∃ wR, wR = W.alloc (.cells #[.int .i64 0, .int .i64 0] 25) := ⟨_, rfl⟩
  have hlR : W.heap.size < wR.heap.size := by rw [hwR]; simp
  have HRR : Hid (wR.cell? ⟨W.heap.size, 0, none⟩ = some (.int .i64 0) ∧ wR.cell? ⟨W.heap.size, 1, none⟩ = some (.int .i64 0) ∧ wR.frozen? ⟨W.heap.size, 0, none⟩ = false ∧ wR.frozen? ⟨W.heap.size, 1, none⟩ = false) := by
    refine ⟨?_, ?_, ?_, ?_⟩ <;> (rw [hwR]; go_cell)
  have HBR : Hid (Below W.heap.size W wR) := by show Below W.heap.size W wR; rw [hwR]; exact (Below.refl _ _).alloc (Nat.le_refl _) _
  have HB1 : Hid (Below wR.heap.size wR w1) := by rw [hwR]; exact al_below hb
  clear hb c0 d0 c1 d1 c2 d2 hwR
  have HY : Hid (∀ w', Below w1.heap.size w1 w' → w'.cell? ⟨p, 0, none⟩ = some (.int .i64 x0) ∧ w'.cell? ⟨p, 1, none⟩ = some (.int .i64 y0) ∧ w'.cell? ⟨q, 0, none⟩ = some (.int .i64 x1) ∧ w'.cell? ⟨q, 1, none⟩ = some (.int .i64 y1) ∧ w'.cell? ⟨r, 0, none⟩ = some (.int .i64 x2) ∧ w'.cell? ⟨r, 1, none⟩ = some (.int .i64 y2) ∧ w'.cell? ⟨W.heap.size, 0, none⟩ = some (.int .i64 0) ∧ w'.cell? ⟨W.heap.size, 1, none⟩ = some (.int .i64 0) ∧ w'.frozen? ⟨W.heap.size, 0, none⟩ = false ∧ w'.frozen? ⟨W.heap.size, 1, none⟩ = false ∧ Below W.heap.size W w') := fun w' hw => by
    have hb := below_after hw HB1.out
    obtain ⟨e0, e1, e2, e3⟩ := HRR.out
    obtain ⟨x0, x1, x2, x3, x4, x5⟩ := HX.out w' (below_after hb HBR.out)
    exact ⟨x0, x1, x2, x3, x4, x5, (hb.cell (p := ⟨W.heap.size, 0, none⟩) hlR).trans e0, (hb.cell (p := ⟨W.heap.size, 1, none⟩) hlR).trans e1, by rw [(bcell hb).2 _ _ hlR]; exact e2, by rw [(bcell hb).2 _ _ hlR]; exact e3, below_after hb HBR.out⟩
  obtain ⟨c0, d0, c1, d1, c2, d2, e0, e1, e2, e3, hbF⟩ := HY.out _ (Below.refl _ _)
  go_wp2_with fail
  go_at_call 44
  refine (HN.out _).mono ?_
  rintro e w2 ⟨rfl, hb⟩
  have HB2 := Lib.hid hb
  clear hb c0 d0 c1 d1 c2 d2 e0 e1 e2 e3 hbF
  obtain ⟨c0, d0, c1, d1, c2, d2, e0, e1, e2, e3, hbF⟩ := HY.out _ HB2.out
  go_wp2_with fail
  refine bodyPost_ret (v := .tuple #[.agg #[.int .i64 0, .int .i64 0], .int .i64 5]) (by simp (maxDischargeDepth := 8) [results, Tryd.results53, go_sem, *]) rfl ?_
  exact ⟨rfl, Below.setCell (Below.setCell hbF (Nat.le_refl _) _) (Nat.le_refl _) _⟩
set_option maxHeartbeats 6400000 in
theorem cl_rf_near (p q r : Nat) (x0 y0 x1 y1 x2 y2 U V D E C X Y : Int) (hR : Rf x0 y0 x1 y1 x2 y2 U V D E C X Y) (a0 a1 : Addr) (W : World) (hs : Snt W a0 a1) (h : allFr [(x0, y0), (x1, y1), (x2, y2)] = true) (hn : nearB x0 y0 x1 y1 = true) (hU : x0 + x1 = U) (hV : y0 + y1 = V) (hD : frX (x0 - x1) (y0 - y1) = D) (hE : frY (x0 - x1) (y0 - y1) = E) (c0 : W.cell? ⟨p, 0, none⟩ = some (.int .i64 x0)) (d0 : W.cell? ⟨p, 1, none⟩ = some (.int .i64 y0)) (c1 : W.cell? ⟨q, 0, none⟩ = some (.int .i64 x1)) (d1 : W.cell? ⟨q, 1, none⟩ = some (.int .i64 y1)) (c2 : W.cell? ⟨r, 0, none⟩ = some (.int .i64 x2)) (d2 : W.cell? ⟨r, 1, none⟩ = some (.int .i64 y2)) :
    Calls Tryd.prog 53 #[.pointer (some ⟨p, 0, none⟩), .pointer (some ⟨q, 0, none⟩), .pointer (some ⟨r, 0, none⟩)] W fun e w' => e = .returned (.tuple #[.agg #[.int .i64 X, .int .i64 Y], .int .i64 C]) ∧ Below W.heap.size W w' := by
  have HE := Lib.hid (demE_yes (a0 := a0) (a1 := a1) h)
  have HS := Lib.hid hs
  have HH := Lib.hid h
  obtain ⟨f0, f1, f2⟩ := frs3 h
  have p0 := isFr_pt f0
  have p1 := isFr_pt f1
  have HN : Hid (∀ w, Calls Tryd.prog 44 #[.agg #[.int .i64 x0, .int .i64 y0], .agg #[.int .i64 x1, .int .i64 y1]] w fun e w' => e = .returned (.bool true) ∧ Below w.heap.size w w') := fun w => by
    have := areNear_any x0 y0 x1 y1 w p0 p1
    rw [hn] at this; exact this
  have lp : p < W.heap.size := World.block_lt_of_cell? _ _ c0
  have lq : q < W.heap.size := World.block_lt_of_cell? _ _ c1
  have lr : r < W.heap.size := World.block_lt_of_cell? _ _ c2
  have HX : Hid (∀ w', Below W.heap.size W w' → w'.cell? ⟨p, 0, none⟩ = some (.int .i64 x0) ∧ w'.cell? ⟨p, 1, none⟩ = some (.int .i64 y0) ∧ w'.cell? ⟨q, 0, none⟩ = some (.int .i64 x1) ∧ w'.cell? ⟨q, 1, none⟩ = some (.int .i64 y1) ∧ w'.cell? ⟨r, 0, none⟩ = some (.int .i64 x2) ∧ w'.cell? ⟨r, 1, none⟩ = some (.int .i64 y2)) := fun w' hw => ⟨(hw.cell (p := ⟨p, 0, none⟩) lp).trans c0, (hw.cell (p := ⟨p, 1, none⟩) lp).trans d0, (hw.cell (p := ⟨q, 0, none⟩) lq).trans c1, (hw.cell (p := ⟨q, 1, none⟩) lq).trans d1, (hw.cell (p := ⟨r, 0, none⟩) lr).trans c2, (hw.cell (p := ⟨r, 1, none⟩) lr).trans d2⟩
  have HSm : Hid (∀ w, Calls Tryd.prog 47 #[.agg #[.int .i64 x0, .int .i64 y0], .agg #[.int .i64 x1, .int .i64 y1]] w fun e w' => e = .returned (.agg #[.int .i64 U, .int .i64 V]) ∧ Below w.heap.size w w') := fun w => by
    have := sumOf_any x0 y0 x1 y1 w (isPt_bn1 p0) (isPt_bn2 p0) (isPt_bn1 p1) (isPt_bn2 p1)
    rw [hU, hV] at this; exact this
  have HDf : Hid (∀ w, Calls Tryd.prog 48 #[.agg #[.int .i64 x0, .int .i64 y0], .agg #[.int .i64 x1, .int .i64 y1]] w fun e w' => e = .returned (.agg #[.int .i64 D, .int .i64 E]) ∧ Below w.heap.size w w') := fun w => by
    have := differenceOf_any x0 y0 x1 y1 w (isPt_bn1 p0) (isPt_bn2 p0) (isPt_bn1 p1) (isPt_bn2 p1)
    rw [hD, hE] at this; exact this
  have HR : Hid (((x2 == U && y2 == V) = true → isPt (D, E) = false → C = 3 ∧ X = 0 ∧ Y = 0) ∧ ((x2 == U && y2 == V) = true → isPt (D, E) = true → C = 0 ∧ X = D ∧ Y = E) ∧ ((x2 == U && y2 == V) = false → (x2 == D && y2 == E) = true → isPt (U, V) = false → C = 3 ∧ X = 0 ∧ Y = 0) ∧ ((x2 == U && y2 == V) = false → (x2 == D && y2 == E) = true → isPt (U, V) = true → C = 0 ∧ X = U ∧ Y = V) ∧ ((x2 == U && y2 == V) = false → (x2 == D && y2 == E) = false → C = 5 ∧ X = 0 ∧ Y = 0)) :=
    ⟨hR.2.2.1 h hn, hR.2.2.2.1 h hn, hR.2.2.2.2.1 h hn, hR.2.2.2.2.2.1 h hn, hR.2.2.2.2.2.2 h hn⟩
  have heq := eq_pt
  clear hR hU hV hD hE
  clear hs f0 f1 f2 p0 p1 h hn
  go_enter Tryd.func53, Tryd.ntmps53
  go_wp2_with fail
  go_at_call 43
  refine (demand3_any x0 y0 x1 y1 x2 y2 a0 a1 _ _ _ _ HE.out (HS.out.below (by (repeat' (first | (with_reducible exact Below.refl _ _) | (with_reducible refine Below.alloc ?_ ?_ _) | (with_reducible refine Below.setCell ?_ ?_ _) | (with_reducible refine Below.drew ?_) | (with_reducible refine below_drewN ?_ _) | (with_reducible assumption) | (with_reducible refine below_after (by with_reducible assumption) ?_) | go_size)))) (by simp) (by go_cell) (by go_cell) (by go_cell) (by go_cell) (by go_cell) (by go_cell)).mono ?_
  rintro e w1 ⟨rfl, hb⟩
  obtain ⟨wR, hwR⟩ : ∃ wR, wR = W.alloc (.cells #[.int .i64 0, .int .i64 0] 25) := ⟨_, rfl⟩
  have hlR : W.heap.size < wR.heap.size := by rw [hwR]; simp
  have HRR : Hid (wR.cell? ⟨W.heap.size, 0, none⟩ = some (.int .i64 0) ∧ wR.cell? ⟨W.heap.size, 1, none⟩ = some (.int .i64 0) ∧ wR.frozen? ⟨W.heap.size, 0, none⟩ = false ∧ wR.frozen? ⟨W.heap.size, 1, none⟩ = false) := by
    refine ⟨?_, ?_, ?_, ?_⟩ <;> (rw [hwR]; go_cell)
  have HBR : Hid (Below W.heap.size W wR) := by show Below W.heap.size W wR; rw [hwR]; exact (Below.refl _ _).alloc (Nat.le_refl _) _
  have HB1 : Hid (Below wR.heap.size wR w1) := by rw [hwR]; exact al_below hb
  clear hb c0 d0 c1 d1 c2 d2 hwR
  have HY : Hid (∀ w', Below w1.heap.size w1 w' → w'.cell? ⟨p, 0, none⟩ = some (.int .i64 x0) ∧ w'.cell? ⟨p, 1, none⟩ = some (.int .i64 y0) ∧ w'.cell? ⟨q, 0, none⟩ = some (.int .i64 x1) ∧ w'.cell? ⟨q, 1, none⟩ = some (.int .i64 y1) ∧ w'.cell? ⟨r, 0, none⟩ = some (.int .i64 x2) ∧ w'.cell? ⟨r, 1, none⟩ = some (.int .i64 y2) ∧ w'.cell? ⟨W.heap.size, 0, none⟩ = some (.int .i64 0) ∧ w'.cell? ⟨W.heap.size, 1, none⟩ = some (.int .i64 0) ∧ w'.frozen? ⟨W.heap.size, 0, none⟩ = false ∧ w'.frozen? ⟨W.heap.size, 1, none⟩ = false ∧ Below W.heap.size W w') := fun w' hw => by
    have hb := below_after hw HB1.out
    obtain ⟨e0, e1, e2, e3⟩ := HRR.out
    obtain ⟨x0, x1, x2, x3, x4, x5⟩ := HX.out w' (below_after hb HBR.out)
    exact ⟨x0, x1, x2, x3, x4, x5, (hb.cell (p := ⟨W.heap.size, 0, none⟩) hlR).trans e0, (hb.cell (p := ⟨W.heap.size, 1, none⟩) hlR).trans e1, by rw [(bcell hb).2 _ _ hlR]; exact e2, by rw [(bcell hb).2 _ _ hlR]; exact e3, below_after hb HBR.out⟩
  obtain ⟨c0, d0, c1, d1, c2, d2, e0, e1, e2, e3, hbF⟩ := HY.out _ (Below.refl _ _)
  go_wp2_with fail
  go_at_call 44
  refine (HN.out _).mono ?_
  rintro e w2 ⟨rfl, hb⟩
  have HB2 := Lib.hid hb
  clear hb c0 d0 c1 d1 c2 d2 e0 e1 e2 e3 hbF
  obtain ⟨c0, d0, c1, d1, c2, d2, e0, e1, e2, e3, hbF⟩ := HY.out _ HB2.out
  go_wp2_with fail
  go_at_call 47
  refine (HSm.out _).mono ?_
  rintro e w3 ⟨rfl, hb⟩
  have HB3 : Hid (Below w1.heap.size w1 w3) := below_after hb HB2.out
  clear hb c0 d0 c1 d1 c2 d2 e0 e1 e2 e3 hbF
  obtain ⟨c0, d0, c1, d1, c2, d2, e0, e1, e2, e3, hbF⟩ := HY.out _ HB3.out
  cases eS : (x2 == U && y2 == V)
  · skip
    go_wp2_with fail
    go_at_call 48
    refine (HDf.out _).mono ?_
    rintro e w4 ⟨rfl, hb⟩
    have HB4 : Hid (Below w1.heap.size w1 w4) := below_after hb HB3.out
    clear hb c0 d0 c1 d1 c2 d2 e0 e1 e2 e3 hbF
    obtain ⟨c0, d0, c1, d1, c2, d2, e0, e1, e2, e3, hbF⟩ := HY.out _ HB4.out
    cases eD : (x2 == D && y2 == E)
    · obtain ⟨rfl, rfl, rfl⟩ := HR.out.2.2.2.2 eS eD
      go_wp2_with fail
      refine bodyPost_ret (v := .tuple #[.agg #[.int .i64 0, .int .i64 0], .int .i64 5]) (by simp (maxDischargeDepth := 8) [results, Tryd.results53, go_sem, *]) rfl ?_
      exact ⟨rfl, Below.setCell (Below.setCell hbF (Nat.le_refl _) _) (Nat.le_refl _) _⟩
    · skip
      go_wp2_with fail
      go_at_call 47
      refine (HSm.out _).mono ?_
      rintro e w5 ⟨rfl, hb⟩
      have HB5 : Hid (Below w1.heap.size w1 w5) := below_after hb HB4.out
      clear hb c0 d0 c1 d1 c2 d2 e0 e1 e2 e3 hbF
      obtain ⟨c0, d0, c1, d1, c2, d2, e0, e1, e2, e3, hbF⟩ := HY.out _ HB5.out
      cases hp : isPt (U, V)
      · obtain ⟨rfl, rfl, rfl⟩ := HR.out.2.2.1 eS eD hp
        go_wp2_with fail
        go_at_call 54
        refine (limitedPoint_no _ _ _ hp).mono ?_
        rintro e w6 ⟨rfl, hb⟩
        have HB6 : Hid (Below w1.heap.size w1 w6) := below_after hb HB5.out
        clear hb c0 d0 c1 d1 c2 d2 e0 e1 e2 e3 hbF
        obtain ⟨c0, d0, c1, d1, c2, d2, e0, e1, e2, e3, hbF⟩ := HY.out _ HB6.out
        go_wp2_with fail
        refine bodyPost_ret (v := .tuple #[.agg #[.int .i64 0, .int .i64 0], .int .i64 3]) (by simp (maxDischargeDepth := 8) [results, Tryd.results53, go_sem, *]) rfl ?_
        exact ⟨rfl, Below.setCell (Below.setCell hbF (Nat.le_refl _) _) (Nat.le_refl _) _⟩
      · obtain ⟨rfl, rfl, rfl⟩ := HR.out.2.2.2.1 eS eD hp
        go_wp2_with fail
        go_at_call 54
        refine (limitedPoint_yes _ _ _ hp).mono ?_
        rintro e w6 ⟨rfl, hb⟩
        have HB6 : Hid (Below w1.heap.size w1 w6) := below_after hb HB5.out
        clear hb c0 d0 c1 d1 c2 d2 e0 e1 e2 e3 hbF
        obtain ⟨c0, d0, c1, d1, c2, d2, e0, e1, e2, e3, hbF⟩ := HY.out _ HB6.out
        go_wp2_with fail
        refine bodyPost_ret (v := .tuple #[.agg #[.int .i64 X, .int .i64 Y], .int .i64 0]) (by simp (maxDischargeDepth := 8) [results, Tryd.results53, go_sem, *]) rfl ?_
        exact ⟨rfl, Below.setCell (Below.setCell hbF (Nat.le_refl _) _) (Nat.le_refl _) _⟩
  · skip
    go_wp2_with fail
    go_at_call 48
    refine (HDf.out _).mono ?_
    rintro e w4 ⟨rfl, hb⟩
    have HB4 : Hid (Below w1.heap.size w1 w4) := below_after hb HB3.out
    clear hb c0 d0 c1 d1 c2 d2 e0 e1 e2 e3 hbF
    obtain ⟨c0, d0, c1, d1, c2, d2, e0, e1, e2, e3, hbF⟩ := HY.out _ HB4.out
    cases hp : isPt (D, E)
    · obtain ⟨rfl, rfl, rfl⟩ := HR.out.1 eS hp
      go_wp2_with fail
      go_at_call 54
      refine (limitedPoint_no _ _ _ hp).mono ?_
      rintro e w6 ⟨rfl, hb⟩
      have HB6 : Hid (Below w1.heap.size w1 w6) := below_after hb HB4.out
      clear hb c0 d0 c1 d1 c2 d2 e0 e1 e2 e3 hbF
      obtain ⟨c0, d0, c1, d1, c2, d2, e0, e1, e2, e3, hbF⟩ := HY.out _ HB6.out
      go_wp2_with fail
      refine bodyPost_ret (v := .tuple #[.agg #[.int .i64 0, .int .i64 0], .int .i64 3]) (by simp (maxDischargeDepth := 8) [results, Tryd.results53, go_sem, *]) rfl ?_
      exact ⟨rfl, Below.setCell (Below.setCell hbF (Nat.le_refl _) _) (Nat.le_refl _) _⟩
    · obtain ⟨rfl, rfl, rfl⟩ := HR.out.2.1 eS hp
      go_wp2_with fail
      go_at_call 54
      refine (limitedPoint_yes _ _ _ hp).mono ?_
      rintro e w6 ⟨rfl, hb⟩
      have HB6 : Hid (Below w1.heap.size w1 w6) := below_after hb HB4.out
      clear hb c0 d0 c1 d1 c2 d2 e0 e1 e2 e3 hbF
      obtain ⟨c0, d0, c1, d1, c2, d2, e0, e1, e2, e3, hbF⟩ := HY.out _ HB6.out
      go_wp2_with fail
      refine bodyPost_ret (v := .tuple #[.agg #[.int .i64 X, .int .i64 Y], .int .i64 0]) (by simp (maxDischargeDepth := 8) [results, Tryd.results53, go_sem, *]) rfl ?_
      exact ⟨rfl, Below.setCell (Below.setCell hbF (Nat.le_refl _) _) (Nat.le_refl _) _⟩
theorem impl_ReflectFraction_any (x0 y0 x1 y1 x2 y2 U V D E C X Y : Int) (a0 a1 : Addr) (w : World) (hs : Snt w a0 a1) (hU : frX (x0 + x1) (y0 + y1) = U) (hV : frY (x0 + x1) (y0 + y1) = V) (hD : frX (x0 - x1) (y0 - y1) = D) (hE : frY (x0 - x1) (y0 - y1) = E) (hR : Rf x0 y0 x1 y1 x2 y2 U V D E C X Y) :
    Calls Tryd.prog 22 #[.agg #[.int .i64 x0, .int .i64 y0], .agg #[.int .i64 x1, .int .i64 y1], .agg #[.int .i64 x2, .int .i64 y2]] w fun e w' => e = .returned (.tuple #[.agg #[.int .i64 X, .int .i64 Y], .int .i64 C]) ∧ Below w.heap.size w w' := by
  cases h : allFr [(x0, y0), (x1, y1), (x2, y2)]
  · obtain ⟨rfl, rfl, rfl⟩ := hR.1 h
    exact impl_ReflectFraction_fail x0 y0 x1 y1 x2 y2 _ a0 a1 w hs h rfl
  · refine impl_ReflectFraction_of x0 y0 x1 y1 x2 y2 X Y C a0 a1 w hs (fun p q r W hs c0 d0 c1 d1 c2 d2 => ?_)
    cases hn : nearB x0 y0 x1 y1
    · exact cl_rf_far p q r x0 y0 x1 y1 x2 y2 U V D E C X Y hR a0 a1 W hs h hn c0 d0 c1 d1 c2 d2
    · obtain ⟨e1, e2⟩ := sum_same3 h hn
      exact cl_rf_near p q r x0 y0 x1 y1 x2 y2 U V D E C X Y hR a0 a1 W hs h hn (e1.symm.trans hU) (e2.symm.trans hV) hD hE c0 d0 c1 d1 c2 d2
end Go.Proofs.YtcaleapedomfmaaDoor
