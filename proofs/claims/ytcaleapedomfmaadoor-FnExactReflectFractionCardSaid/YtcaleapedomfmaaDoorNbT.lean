/-
  Sums and differences of neighbours in the program: what lies behind the door, the door, and both functions (own work).
-/
import Derived.Test.YtcaleapedomfmaaDoorNbS
namespace Go.Proofs.YtcaleapedomfmaaDoor
open Go.ChangeShapes Go.WideShapes Go.ChangeAt Go.RowKit Go.Shelf
set_option linter.unusedVariables false
set_option maxRecDepth 100000
set_option linter.unusedSimpArgs false
set_option maxRecDepth 100000

set_option maxHeartbeats 1600000 in
theorem cl_made_pan (p q r : Nat) (x0 y0 x1 y1 : Int) (a0 a1 a : Addr) (W : World) (hs : Snt W a0 a1) (hE : demE a0 a1 [(x0, y0), (x1, y1)] = pan a) (c0 : W.cell? ⟨p, 0, none⟩ = some (.int .i64 x0)) (d0 : W.cell? ⟨p, 1, none⟩ = some (.int .i64 y0)) (c1 : W.cell? ⟨q, 0, none⟩ = some (.int .i64 x1)) (d1 : W.cell? ⟨q, 1, none⟩ = some (.int .i64 y1)) :
    Calls Tryd.prog 96 #[.pointer (some ⟨p, 0, none⟩), .pointer (some ⟨q, 0, none⟩), .pointer (some ⟨r, 0, none⟩)] W fun e w' => e = pan a ∧ Below W.heap.size W w' := by
  have HE := Lib.hid hE
  have HS := Lib.hid hs
  have lp : p < W.heap.size := World.block_lt_of_cell? _ _ c0
  have lq : q < W.heap.size := World.block_lt_of_cell? _ _ c1
  clear hE hs
  go_enter Tryd.func96, Tryd.ntmps96
  go_wp2_with fail
  go_at_call 43
  refine (demand2_any x0 y0 x1 y1 a0 a1 _ _ _ _ HE.out (HS.out.below (by (repeat' (first | (with_reducible exact Below.refl _ _) | (with_reducible refine Below.alloc ?_ ?_ _) | (with_reducible refine Below.setCell ?_ ?_ _) | (with_reducible refine Below.drew ?_) | (with_reducible refine below_drewN ?_ _) | (with_reducible assumption) | (with_reducible refine below_after (by with_reducible assumption) ?_) | go_size)))) (by simp) (by go_cell) (by go_cell) (by go_cell) (by go_cell)).mono ?_
  rintro e w1 ⟨rfl, hb⟩
  have hb2 : Below W.heap.size W w1 := below_after hb (by (repeat' (first | (with_reducible exact Below.refl _ _) | (with_reducible refine Below.alloc ?_ ?_ _) | (with_reducible refine Below.setCell ?_ ?_ _) | (with_reducible refine Below.drew ?_) | (with_reducible refine below_drewN ?_ _) | (with_reducible assumption) | (with_reducible refine below_after (by with_reducible assumption) ?_) | go_size)))
  clear hb
  go_wp2_with fail
  exact ⟨rfl, rfl, hb2⟩
set_option maxHeartbeats 1600000 in
theorem cl_made_ok (p q r : Nat) (x0 y0 x1 y1 U V c X Y : Int) (hc : sbK x0 y0 x1 y1 U V = c) (hX : onz c U = X) (hY : onz c V = Y) (J : FuncId) (a0 a1 : Addr) (W : World) (eJ : ∀ args w, (callFunc J args).run Tryd.prog w = .ok (.enter J args) w) (hs : Snt W a0 a1) (h : allFr [(x0, y0), (x1, y1)] = true)
    (hJ : ∀ w, Calls Tryd.prog J #[.agg #[.int .i64 x0, .int .i64 y0], .agg #[.int .i64 x1, .int .i64 y1]] w fun e w' => e = .returned (.agg #[.int .i64 U, .int .i64 V]) ∧ Below w.heap.size w w')
    (c0 : W.cell? ⟨p, 0, none⟩ = some (.int .i64 x0)) (d0 : W.cell? ⟨p, 1, none⟩ = some (.int .i64 y0)) (c1 : W.cell? ⟨q, 0, none⟩ = some (.int .i64 x1)) (d1 : W.cell? ⟨q, 1, none⟩ = some (.int .i64 y1)) (cj : W.cell? ⟨r, 0, none⟩ = some (.func (.func J) #[] #[])) :
    Calls Tryd.prog 96 #[.pointer (some ⟨p, 0, none⟩), .pointer (some ⟨q, 0, none⟩), .pointer (some ⟨r, 0, none⟩)] W fun e w' => e = .returned (.tuple #[.agg #[.int .i64 X, .int .i64 Y], .int .i64 c]) ∧ Below W.heap.size W w' := by
  have HE := Lib.hid (demE_yes (a0 := a0) (a1 := a1) h)
  have HS := Lib.hid hs
  have HJ := Lib.hid hJ
  obtain ⟨f0, f1⟩ := frs2 h
  have H0 := Lib.hid (isFr_pt f0)
  have H1 := Lib.hid (isFr_pt f1)
  have lp : p < W.heap.size := World.block_lt_of_cell? _ _ c0
  have lq : q < W.heap.size := World.block_lt_of_cell? _ _ c1
  have lr : r < W.heap.size := World.block_lt_of_cell? _ _ cj
  have HX : Hid (∀ w', Below W.heap.size W w' → w'.cell? ⟨p, 0, none⟩ = some (.int .i64 x0) ∧ w'.cell? ⟨p, 1, none⟩ = some (.int .i64 y0) ∧ w'.cell? ⟨q, 0, none⟩ = some (.int .i64 x1) ∧ w'.cell? ⟨q, 1, none⟩ = some (.int .i64 y1) ∧ w'.cell? ⟨r, 0, none⟩ = some (.func (.func J) #[] #[])) := fun w' hw => ⟨(hw.cell (p := ⟨p, 0, none⟩) lp).trans c0, (hw.cell (p := ⟨p, 1, none⟩) lp).trans d0, (hw.cell (p := ⟨q, 0, none⟩) lq).trans c1, (hw.cell (p := ⟨q, 1, none⟩) lq).trans d1, (hw.cell (p := ⟨r, 0, none⟩) lr).trans cj⟩
  have HH := Lib.hid h
  clear hs f0 f1 hJ h
  go_enter Tryd.func96, Tryd.ntmps96
  go_wp2_with fail
  go_at_call 43
  refine (demand2_any x0 y0 x1 y1 a0 a1 _ _ _ _ HE.out (HS.out.below (by (repeat' (first | (with_reducible exact Below.refl _ _) | (with_reducible refine Below.alloc ?_ ?_ _) | (with_reducible refine Below.setCell ?_ ?_ _) | (with_reducible refine Below.drew ?_) | (with_reducible refine below_drewN ?_ _) | (with_reducible assumption) | (with_reducible refine below_after (by with_reducible assumption) ?_) | go_size)))) (by simp) (by go_cell) (by go_cell) (by go_cell) (by go_cell)).mono ?_
  rintro e w1 ⟨rfl, hb⟩
  -- the result's own block
  obtain ⟨wR, hwR⟩ : ∃ wR, wR = W.alloc (.cells #[.int .i64 0, .int .i64 0] 25) := ⟨_, rfl⟩
  have hlR : W.heap.size < wR.heap.size := by rw [hwR]; simp
  have HRR : Hid (wR.cell? ⟨W.heap.size, 0, none⟩ = some (.int .i64 0) ∧ wR.cell? ⟨W.heap.size, 1, none⟩ = some (.int .i64 0) ∧ wR.frozen? ⟨W.heap.size, 0, none⟩ = false ∧ wR.frozen? ⟨W.heap.size, 1, none⟩ = false) := by
    refine ⟨?_, ?_, ?_, ?_⟩ <;> (rw [hwR]; go_cell)
  have HBR : Hid (Below W.heap.size W wR) := by show Below W.heap.size W wR; rw [hwR]; exact (Below.refl _ _).alloc (Nat.le_refl _) _
  have HB1 : Hid (Below wR.heap.size wR w1) := by rw [hwR]; exact al_below hb
  clear hb c0 d0 c1 d1 cj hwR
  have HY : Hid (∀ w', Below w1.heap.size w1 w' → w'.cell? ⟨p, 0, none⟩ = some (.int .i64 x0) ∧ w'.cell? ⟨p, 1, none⟩ = some (.int .i64 y0) ∧ w'.cell? ⟨q, 0, none⟩ = some (.int .i64 x1) ∧ w'.cell? ⟨q, 1, none⟩ = some (.int .i64 y1) ∧ w'.cell? ⟨r, 0, none⟩ = some (.func (.func J) #[] #[]) ∧ w'.cell? ⟨W.heap.size, 0, none⟩ = some (.int .i64 0) ∧ w'.cell? ⟨W.heap.size, 1, none⟩ = some (.int .i64 0) ∧ w'.frozen? ⟨W.heap.size, 0, none⟩ = false ∧ w'.frozen? ⟨W.heap.size, 1, none⟩ = false ∧ Below W.heap.size W w') := fun w' hw => by
    have hb := below_after hw HB1.out
    obtain ⟨e0, e1, e2, e3⟩ := HRR.out
    obtain ⟨x0, x1, x2, x3, x4⟩ := HX.out w' (below_after hb HBR.out)
    exact ⟨x0, x1, x2, x3, x4, (hb.cell (p := ⟨W.heap.size, 0, none⟩) hlR).trans e0, (hb.cell (p := ⟨W.heap.size, 1, none⟩) hlR).trans e1, by rw [(bcell hb).2 _ _ hlR]; exact e2, by rw [(bcell hb).2 _ _ hlR]; exact e3, below_after hb HBR.out⟩
  obtain ⟨c0, d0, c1, d1, cj, e0, e1, e2, e3, hbF⟩ := HY.out _ (Below.refl _ _)
  go_wp2_with fail
  go_at_call 44
  refine (areNear_any _ _ _ _ _ H0.out H1.out).mono ?_
  rintro e w2 ⟨rfl, hb⟩
  have HB2 := Lib.hid hb
  clear hb c0 d0 c1 d1 cj e0 e1 e2 e3 hbF
  obtain ⟨c0, d0, c1, d1, cj, e0, e1, e2, e3, hbF⟩ := HY.out _ HB2.out
  cases hn : nearB x0 y0 x1 y1
  · obtain rfl : 5 = c := (sbK_far HH.out hn).symm.trans hc
    obtain rfl : 0 = X := (onz_no (by decide)).symm.trans hX
    obtain rfl : 0 = Y := (onz_no (by decide)).symm.trans hY
    go_wp2_with fail
    refine bodyPost_ret (v := .tuple #[.agg #[.int .i64 0, .int .i64 0], .int .i64 5]) (by simp (maxDischargeDepth := 8) [results, Tryd.results96, go_sem, *]) rfl ?_
    exact ⟨rfl, Below.setCell (Below.setCell hbF (Nat.le_refl _) _) (Nat.le_refl _) _⟩
  · cases hp : isPt (U, V)
    · obtain rfl : 3 = c := (sbK_big HH.out hn hp).symm.trans hc
      obtain rfl : 0 = X := (onz_no (by decide)).symm.trans hX
      obtain rfl : 0 = Y := (onz_no (by decide)).symm.trans hY
      go_wp2_with fail
      refine (HJ.out _).mono ?_
      rintro e w3 ⟨rfl, hb⟩
      have HB3 : Hid (Below w1.heap.size w1 w3) := below_after hb HB2.out
      clear hb c0 d0 c1 d1 cj e0 e1 e2 e3 hbF
      go_wp2_with fail
      go_at_call 54
      refine (limitedPoint_no _ _ _ hp).mono ?_
      rintro e w4 ⟨rfl, hb⟩
      obtain ⟨c0, d0, c1, d1, cj, e0, e1, e2, e3, hbF⟩ := HY.out _ (below_after hb HB3.out)
      clear hb
      go_wp2_with fail
      refine bodyPost_ret (v := .tuple #[.agg #[.int .i64 0, .int .i64 0], .int .i64 3]) (by simp (maxDischargeDepth := 8) [results, Tryd.results96, go_sem, *]) rfl ?_
      exact ⟨rfl, Below.setCell (Below.setCell hbF (Nat.le_refl _) _) (Nat.le_refl _) _⟩
    · obtain rfl : 0 = c := (sbK_ok HH.out hn hp).symm.trans hc
      obtain rfl : U = X := (onz_yes _).symm.trans hX
      obtain rfl : V = Y := (onz_yes _).symm.trans hY
      go_wp2_with fail
      refine (HJ.out _).mono ?_
      rintro e w3 ⟨rfl, hb⟩
      have HB3 : Hid (Below w1.heap.size w1 w3) := below_after hb HB2.out
      clear hb c0 d0 c1 d1 cj e0 e1 e2 e3 hbF
      go_wp2_with fail
      go_at_call 54
      refine (limitedPoint_yes _ _ _ hp).mono ?_
      rintro e w4 ⟨rfl, hb⟩
      obtain ⟨c0, d0, c1, d1, cj, e0, e1, e2, e3, hbF⟩ := HY.out _ (below_after hb HB3.out)
      clear hb
      go_wp2_with fail
      refine bodyPost_ret (v := .tuple #[.agg #[.int .i64 U, .int .i64 V], .int .i64 0]) (by simp (maxDischargeDepth := 8) [results, Tryd.results96, go_sem, *]) rfl ?_
      exact ⟨rfl, Below.setCell (Below.setCell hbF (Nat.le_refl _) _) (Nat.le_refl _) _⟩
end Go.Proofs.YtcaleapedomfmaaDoor
