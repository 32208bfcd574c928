/-
  The model's l02Spoil: a corner out of bytes, and seldom none (own work).
-/
import Derived.Test.YtoenlpkphekbnaaCrE
namespace Go.Proofs.Ytoenlpkphekbnaa
open Go.ChangeShapes Go.WideShapes Go.ChangeAt Go.RowKit
set_option linter.unusedVariables false
set_option maxRecDepth 100000
set_option linter.unusedSimpArgs false
set_option maxRecDepth 100000

set_option maxHeartbeats 8000000 in
theorem l02Spoil_any (s : Nat) (a : Option Addr) (n cap : Nat) (w : World) (h : Sr w s a n cap) :
    Calls Try.prog 110 #[.pointer (some ⟨s, 0, none⟩)] w fun e w' => ∃ x0 y0 x1 y1 : Int, e = .returned (.agg #[.int .i64 x0, .int .i64 y0, .int .i64 x1, .int .i64 y1]) ∧ Drew s a n cap w w' := by
  have HS := Lib.hid h
  have hsl := h.lt
  clear h
  go_enter Try.func110, Try.ntmps110
  go_wp2_with fail
  go_at_call 136
  refine (l02Draw_any s a n cap _ (sr_alloc HS.out _)).mono ?_
  rintro e w3 ⟨x0, y0, x1, y1, rfl, hg3, hs3⟩
  have HR3 := Lib.hid ((four_new w (.int .i64 0) (.int .i64 0) (.int .i64 0) (.int .i64 0) 52).kept hg3 (fun e => by cases e; omega))
  have G3 := Lib.hid ((World.grownBy_alloc w _ _).trans hg3)
  have hwl3 : w.heap.size < w3.heap.size := HR3.out.2.2.2.2.2.2.2.2
  have hs3l := hs3.lt
  clear hg3
  obtain ⟨X, hX⟩ : ∃ X, w3.heap.size = X := ⟨_, rfl⟩
  have HX3 := Lib.hid (four_new w3 (.int .i64 x0) (.int .i64 y0) (.int .i64 x1) (.int .i64 y1) 52)
  rw [hX] at HX3
  have HR3' := Lib.hid (HR3.out.kept (World.grownBy_alloc w3 (.cells #[.int .i64 x0, .int .i64 y0, .int .i64 x1, .int .i64 y1] 52) none) (by simp))
  have G3' := Lib.hid (grown_new G3.out (.cells #[.int .i64 x0, .int .i64 y0, .int .i64 x1, .int .i64 y1] 52))
  have hRX : w.heap.size < X := by omega
  have hsX : s < X := by omega
  clear HR3 G3 hwl3 hs3l
  go_wp2_with fail
  go_at_call 87
  refine (l01Next_any s a n cap 50 _ (sr_alloc hs3 _)).mono ?_
  rintro e w5 ⟨z, rfl, -, -, hg5, hs5⟩
  have HRR := Lib.hid (HR3'.out.kept hg5 (fun e => by simp at e; omega))
  have HXX := Lib.hid (HX3.out.kept hg5 (fun e => by simp at e; omega))
  have HGG := Lib.hid (G3'.out.trans hg5)
  have HSS := Lib.hid hs5
  clear hg5 hs5 hs3 HR3' HX3 G3'
  (try rw [hX])
  clear hX
  by_cases hz0 : z = 0
  · subst hz0
    obtain ⟨c0, c1, c2, c3, f0, f1, f2, f3, hb⟩ := HXX.out
    obtain ⟨d0, d1, d2, d3, g0, g1, g2, g3, hd⟩ := HRR.out
    go_wp2
    refine bodyPost_ret (v := .agg #[.int .i64 x0, .int .i64 y0, .int .i64 x0, .int .i64 y0]) (by simp (maxDischargeDepth := 8) [results, Try.results110, go_sem, *]) rfl ?_
    exact ⟨x0, y0, x0, y0, rfl, by repeat' (first | (with_reducible exact HGG.out) | (with_reducible refine grown_setN ?_ (by first | exact Nat.le_refl _ | omega) _ _)), by repeat' (first | (with_reducible exact HSS.out) | (with_reducible refine sr_set ?_ _ _ _ (by omega)))⟩
  · by_cases hz1 : z = 1
    · subst hz1
      obtain ⟨c0, c1, c2, c3, f0, f1, f2, f3, hb⟩ := HXX.out
      obtain ⟨d0, d1, d2, d3, g0, g1, g2, g3, hd⟩ := HRR.out
      go_wp2
      refine bodyPost_ret (v := .agg #[.int .i64 2, .int .i64 4, .int .i64 x1, .int .i64 y1]) (by simp (maxDischargeDepth := 8) [results, Try.results110, go_sem, *]) rfl ?_
      exact ⟨2, 4, x1, y1, rfl, by repeat' (first | (with_reducible exact HGG.out) | (with_reducible refine grown_setN ?_ (by first | exact Nat.le_refl _ | omega) _ _)), by repeat' (first | (with_reducible exact HSS.out) | (with_reducible refine sr_set ?_ _ _ _ (by omega)))⟩
    · by_cases hz2 : z = 2
      · subst hz2
        obtain ⟨c0, c1, c2, c3, f0, f1, f2, f3, hb⟩ := HXX.out
        obtain ⟨d0, d1, d2, d3, g0, g1, g2, g3, hd⟩ := HRR.out
        go_wp2
        refine bodyPost_ret (v := .agg #[.int .i64 1000000, .int .i64 999999, .int .i64 (-999999), .int .i64 1000000]) (by simp (maxDischargeDepth := 8) [results, Try.results110, go_sem, *]) rfl ?_
        exact ⟨1000000, 999999, -999999, 1000000, rfl, by repeat' (first | (with_reducible exact HGG.out) | (with_reducible refine grown_setN ?_ (by first | exact Nat.le_refl _ | omega) _ _)), by repeat' (first | (with_reducible exact HSS.out) | (with_reducible refine sr_set ?_ _ _ _ (by omega)))⟩
      · have hn0 : (z == 0) = false := by simp [hz0]
        have hn1 : (z == 1) = false := by simp [hz1]
        have hn2 : (z == 2) = false := by simp [hz2]
        by_cases hz3 : z = 3
        · subst hz3
          clear hn0 hn1 hn2 hz0 hz1 hz2
          go_wp2_with fail
          go_at_call 87
          refine (l01Next_any s a n cap 2 _ HSS.out).mono ?_
          rintro e w6 ⟨i, rfl, -, hi, hg6, hs6⟩
          obtain ⟨i1, i2⟩ := hi (by omega)
          have HRR := Lib.hid (HRR.out.kept hg6 (fun e => by simp at e; omega))
          have HXX := Lib.hid (HXX.out.kept hg6 (fun e => by simp at e; omega))
          have HGG := Lib.hid (HGG.out.trans hg6)
          have HSS := Lib.hid hs6
          clear hg6 hs6 hi
          by_cases hi0 : i = 0
          · subst hi0
            obtain ⟨c0, c1, c2, c3, f0, f1, f2, f3, hb⟩ := HXX.out
            obtain ⟨d0, d1, d2, d3, g0, g1, g2, g3, hd⟩ := HRR.out
            go_wp2
            refine bodyPost_ret (v := .agg #[.int .i64 x0, .int .i64 y0, .int .i64 1000001, .int .i64 y1]) (by simp (maxDischargeDepth := 8) [results, Try.results110, go_sem, *]) rfl ?_
            exact ⟨x0, y0, 1000001, y1, rfl, by repeat' (first | (with_reducible exact HGG.out) | (with_reducible refine grown_setN ?_ (by first | exact Nat.le_refl _ | omega) _ _)), by repeat' (first | (with_reducible exact HSS.out) | (with_reducible refine sr_set ?_ _ _ _ (by omega)))⟩
          · obtain rfl : i = 1 := by omega
            obtain ⟨c0, c1, c2, c3, f0, f1, f2, f3, hb⟩ := HXX.out
            obtain ⟨d0, d1, d2, d3, g0, g1, g2, g3, hd⟩ := HRR.out
            go_wp2
            refine bodyPost_ret (v := .agg #[.int .i64 x0, .int .i64 y0, .int .i64 x1, .int .i64 1000001]) (by simp (maxDischargeDepth := 8) [results, Try.results110, go_sem, *]) rfl ?_
            exact ⟨x0, y0, x1, 1000001, rfl, by repeat' (first | (with_reducible exact HGG.out) | (with_reducible refine grown_setN ?_ (by first | exact Nat.le_refl _ | omega) _ _)), by repeat' (first | (with_reducible exact HSS.out) | (with_reducible refine sr_set ?_ _ _ _ (by omega)))⟩
        · have hn3 : (z == 3) = false := by simp [hz3]
          obtain ⟨c0, c1, c2, c3, f0, f1, f2, f3, hb⟩ := HXX.out
          obtain ⟨d0, d1, d2, d3, g0, g1, g2, g3, hd⟩ := HRR.out
          go_wp2
          refine bodyPost_ret (v := .agg #[.int .i64 x0, .int .i64 y0, .int .i64 x1, .int .i64 y1]) (by simp (maxDischargeDepth := 8) [results, Try.results110, go_sem, *]) rfl ?_
          exact ⟨x0, y0, x1, y1, rfl, by repeat' (first | (with_reducible exact HGG.out) | (with_reducible refine grown_setN ?_ (by first | exact Nat.le_refl _ | omega) _ _)), by repeat' (first | (with_reducible exact HSS.out) | (with_reducible refine sr_set ?_ _ _ _ (by omega)))⟩
end Go.Proofs.Ytoenlpkphekbnaa
