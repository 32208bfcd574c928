/-
  The model's l02Draw: a corner out of bytes (own work).
-/
import Derived.Test.YtoenlpkphekbnaaCrD
namespace Go.Proofs.Ytoenlpkphekbnaa
open Go.ChangeShapes Go.WideShapes Go.ChangeAt Go.RowKit
set_option linter.unusedVariables false
set_option maxRecDepth 100000
set_option linter.unusedSimpArgs false
set_option maxRecDepth 100000

theorem Four.set23 {w : World} {b : Nat} {c0 c1 c2 c3 : Value} (h : Four w b c0 c1 c2 c3) (d2 d3 : Value) : Four ((w.setCell ⟨b, 2, none⟩ d2).setCell ⟨b, 3, none⟩ d3) b c0 c1 d2 d3 := by
  obtain ⟨h0, h1, h2, h3, f0, f1, f2, f3, hb⟩ := h
  have o : ∀ (w : World) (i j : Nat) (v : Value), i ≠ j → (w.setCell ⟨b, i, none⟩ v).cell? ⟨b, j, none⟩ = w.cell? ⟨b, j, none⟩ := fun w i j v hn => World.cell?_setCell_other _ _ _ _ (fun e => hn (by cases e; rfl))
  refine ⟨?_, ?_, ?_, ?_, by simpa using f0, by simpa using f1, by simpa using f2, by simpa using f3, by simpa using hb⟩
  · rw [o _ _ _ _ (by omega), o _ _ _ _ (by omega)]; exact h0
  · rw [o _ _ _ _ (by omega), o _ _ _ _ (by omega)]; exact h1
  · rw [o _ _ _ _ (by omega)]; exact World.cell?_setCell_same _ _ _ h2
  · exact World.cell?_setCell_same _ _ _ ((o _ _ _ _ (by omega)).trans h3)
set_option maxHeartbeats 8000000 in
theorem l02Draw_any (s : Nat) (a : Option Addr) (n cap : Nat) (w : World) (h : Sr w s a n cap) :
    Calls Try.prog 136 #[.pointer (some ⟨s, 0, none⟩)] w fun e w' => ∃ x0 y0 x1 y1 : Int, e = .returned (.agg #[.int .i64 x0, .int .i64 y0, .int .i64 x1, .int .i64 y1]) ∧ Drew s a n cap w w' := by
  have HS := Lib.hid h
  have hsl := h.lt
  clear h
  go_enter Try.func136, Try.ntmps136
  go_wp2_with fail
  go_at_call 100
  refine (l01Pick_any s (w.heap.size + 1) 5 a n cap [3, 5, 9, 30, 900] _ (sr_alloc (sr_alloc HS.out _) _) (by simp) (by omega) (by simp) (by simp) (fun j hj => ?_)).mono ?_
  · have h := fun t => row_new (w.alloc (.cells #[.int .i64 0, .int .i64 0, .int .i64 0, .int .i64 0] 52)) [3, 5, 9, 30, 900] t j hj
    simp only [World.size_alloc] at h
    exact h _
  rintro e w1 ⟨m, hm, rfl, hg1, hs1⟩
  have hmb : 1 ≤ m ∧ m ≤ 1000000 := by simp at hm; omega
  have HR1 := Lib.hid (((four_new w (.int .i64 0) (.int .i64 0) (.int .i64 0) (.int .i64 0) 52).kept (World.grownBy_alloc _ _ none) (by simp)).kept hg1 (fun e => by cases e; omega))
  have G1 := Lib.hid (((World.grownBy_alloc w _ _).trans (World.grownBy_alloc _ _ _)).trans hg1)
  have hwl : w.heap.size < w1.heap.size := HR1.out.2.2.2.2.2.2.2.2
  clear hg1 hm
  go_wp2_with fail
  go_at_call 89
  refine (l01DrawPrimitive_bd s a n cap m _ hs1 hmb.1 hmb.2).mono ?_
  rintro e w2 ⟨x0, y0, rfl, ⟨p1, p2, pn⟩, hg2, hs2⟩
  have HR2 := Lib.hid (HR1.out.kept hg2 (fun e => by simp at e; omega))
  have G2 := Lib.hid (G1.out.trans hg2)
  have hwl2 := hg2.size
  clear hg2 hs1
  go_wp2_with fail
  go_at_call 89
  refine (l01DrawPrimitive_bd s a n cap m _ hs2 hmb.1 hmb.2).mono ?_
  rintro e w3 ⟨x1, y1, rfl, ⟨q1, q2, -⟩, hg3, hs3⟩
  have HR3 := Lib.hid (HR2.out.kept hg3 (fun e => by simp at e; omega))
  have G3 := Lib.hid (G2.out.trans hg3)
  have hwl3 := hg3.size
  have hs3l := hs3.lt
  clear hg3 hs2
  obtain ⟨X, hX⟩ : ∃ X, w3.heap.size = X := ⟨_, rfl⟩
  have HX3 := Lib.hid (four_new w3 (.int .i64 x0) (.int .i64 y0) (.int .i64 x1) (.int .i64 y1) 52)
  rw [hX] at HX3
  have HR3' := Lib.hid (HR3.out.kept (World.grownBy_alloc w3 (.cells #[.int .i64 x0, .int .i64 y0, .int .i64 x1, .int .i64 y1] 52) none) (by simp))
  have G3' := Lib.hid (grown_new G3.out (.cells #[.int .i64 x0, .int .i64 y0, .int .i64 x1, .int .i64 y1] 52))
  have S3' := Lib.hid (sr_alloc hs3 (.cells #[.int .i64 x0, .int .i64 y0, .int .i64 x1, .int .i64 y1] 52))
  have hRX : w.heap.size < X := by omega
  have hsX : s < X := by omega
  clear hs3 HR1 HR2 HR3 G1 G2 G3 hwl hwl2 hwl3 hs3l hmb
  have HPN := Lib.hid (sq_pos pn)
  go_wp2_with fail
  (try rw [hX])
  clear hX
  go_loopw [] (fun wr => ∃ u v : Int, (-1000000 ≤ u ∧ u ≤ 1000000) ∧ (-1000000 ≤ v ∧ v ≤ 1000000) ∧ Four wr w.heap.size (.int .i64 0) (.int .i64 0) (.int .i64 0) (.int .i64 0) ∧ Four wr X (.int .i64 x0) (.int .i64 y0) (.int .i64 u) (.int .i64 v) ∧ w.grownBy wr (some s) ∧ Sr wr s a n cap) (fun wr => if detP (x0, y0) (ivOf (wr.cell? ⟨X, 2, none⟩), ivOf (wr.cell? ⟨X, 3, none⟩)) = 0 then 1 else 0)
  case atStart => exact ⟨x1, y1, q1, q2, HR3'.out, HX3.out, G3'.out, S3'.out⟩
  case round =>
    clear HR3' HX3 G3' S3' q1 q2
    obtain ⟨u, v, b1, b2, hR, hX, hg, hs⟩ := hrel
    have HR := Lib.hid hR
    have HX := Lib.hid hX
    have HG := Lib.hid hg
    have HS1 := Lib.hid hs
    clear hR hg hs
    obtain ⟨D, hD⟩ : ∃ D, detP (x0, y0) (u, v) = D := ⟨_, rfl⟩
    have HD := Lib.hid (fun w => by have := l01Det_any x0 y0 u v w ⟨by omega, by omega⟩ ⟨by omega, by omega⟩ ⟨by omega, by omega⟩ ⟨by omega, by omega⟩; rwa [hD] at this)
    obtain ⟨c0, c1, c2, c3, f0, f1, f2, f3, hb⟩ := hX
    have HDD := Lib.hid hD
    clear hD
    go_wp2_with fail
    go_at_call 134
    refine (HD.out _).mono ?_
    rintro e w4 ⟨rfl, hb4⟩
    have G4 := Lib.hid (grown_below (World.grownBy.refl _ none) hb4)
    clear hb4 c0 c1 c2 c3 f0 f1 f2 f3 hb
    have HR4 := Lib.hid (HR.out.kept G4.out (by simp))
    have HX4 := Lib.hid (HX.out.kept G4.out (by simp))
    have HS4 := Lib.hid (HS1.out.kept G4.out (fun k e => by cases e))
    have HG4 := Lib.hid (HG.out.trans (grown_weaken G4.out _))
    by_cases hz : D = 0
    · subst hz
      obtain ⟨c0, c1, c2, c3, f0, f1, f2, f3, hb⟩ := HX4.out
      have hw1 : IntKind.i64.wrap (-y0) = -y0 := by rw [IntKind.wrap_i64]; omega
      go_wp2
      refine ⟨⟨-y0, x0, by omega, by omega, (HR4.out.other (by omega) _ _).other (by omega) _ _, HX4.out.set23 _ _, grown_setN (grown_setN HG4.out (by omega) _ _) (by omega) _ _, sr_set (sr_set HS4.out _ _ _ hsX) _ _ _ hsX⟩, ?_⟩
      rw [(HX4.out.set23 (.int .i64 (-y0)) (.int .i64 x0)).ivs.1, (HX4.out.set23 (.int .i64 (-y0)) (.int .i64 x0)).ivs.2, HX.out.ivs.1, HX.out.ivs.2, if_neg HPN.out, if_pos HDD.out]
      omega
    · have hne : (D == 0) = false := by simp [hz]
      obtain ⟨c0, c1, c2, c3, f0, f1, f2, f3, hb⟩ := HX4.out
      go_wp2_with fail
      go_at_call 87
      refine (l01Next_any s a n cap 12 _ HS4.out).mono ?_
      rintro e w5 ⟨z, rfl, -, -, hg5, hs5⟩
      clear c0 c1 c2 c3 f0 f1 f2 f3 hb
      have HR5 := Lib.hid (HR4.out.kept hg5 (fun e => by simp at e; omega))
      have HX5 := Lib.hid (HX4.out.kept hg5 (fun e => by simp at e; omega))
      have HG5 := Lib.hid (HG4.out.trans hg5)
      have HS5 := Lib.hid hs5
      clear hg5 hs5 hne hz
      by_cases hz0 : z = 0
      · subst hz0
        go_wp2_with fail
        go_at_call 87
        refine (l01Next_any s a n cap 40 _ HS5.out).mono ?_
        rintro e w6 ⟨t, rfl, -, ht, hg6, hs6⟩
        obtain ⟨t1, t2⟩ := ht (by omega)
        have HR6 := Lib.hid (HR5.out.kept hg6 (fun e => by simp at e; omega))
        have HG6 := Lib.hid (HG5.out.trans hg6)
        clear hg6 ht
        obtain ⟨S, hS⟩ : ∃ S, 1 + t = S := ⟨_, rfl⟩
        go_wp2_with fail
        go_at_call 87
        refine (l01Next_any s a n cap 20 _ hs6).mono ?_
        rintro e w7 ⟨k, rfl, -, hk, hg7, hs7⟩
        obtain ⟨k1, k2⟩ := hk (by omega)
        have HRR := Lib.hid (HR6.out.kept hg7 (fun e => by simp at e; omega))
        have HGG := Lib.hid (HG6.out.trans hg7)
        have HSS := Lib.hid hs7
        clear hg7 hk hs6 hs7
        (try rw [hS])
        have hS1 : 1 ≤ S ∧ S ≤ 40 := by omega
        clear hS t1 t2
        obtain ⟨j, rfl⟩ : ∃ j : Nat, k = j := ⟨k.toNat, by omega⟩
        go_wp2_with fail
        go_loopw [5, 7] (fun c i wr => wr = w7 ∧ ∃ (q : Int) (j : Nat), c = .int .i64 q ∧ i = .int .i64 j ∧ j ≤ 19 ∧ 1 ≤ q ∧ q ≤ S) (fun c i _ => (intOf i).toNat)
        case atStart => exact ⟨rfl, 1, j, rfl, rfl, by omega, by omega, by omega⟩
        case round =>
          obtain ⟨rfl, q, j', rfl, rfl, j1, q1, q2⟩ := hrel
          by_cases hj : j' = 0
          · subst hj
            go_wp2_with fail
            go_loopw [5] (fun c wr2 => wr2 = wr ∧ ∃ q : Int, c = .int .i64 q ∧ 1 ≤ q ∧ q ≤ S) (fun c _ => (intOf c).toNat)
            case atStart => exact ⟨rfl, q, rfl, q1, q2⟩
            case round =>
              obtain ⟨rfl, q', rfl, r1, r2⟩ := hrel
              clear q1 q2
              obtain ⟨gq, hgq⟩ : ∃ g, gcdI S q' = g := ⟨_, rfl⟩
              have CG := Lib.hid (fun w => (l01Gcd_any S q' w ⟨by omega, by omega⟩ ⟨by omega, by omega⟩))
              rw [hgq] at CG
              have HQ := Lib.hid hgq
              clear hgq
              by_cases h1 : gq = 1
              · subst h1
                go_wp2_with fail
                go_at_call 96
                refine (CG.out _).mono ?_
                rintro e wg ⟨rfl, rfl⟩
                go_wp2_with fail
                go_at_call 125
                refine (l02Normal_any _ _ _).mono ?_
                rintro e wn ⟨rfl, hb4⟩
                have G4 := Lib.hid (grown_below (World.grownBy.refl _ none) hb4)
                clear hb4
                obtain ⟨d0, d1, d2, d3, g0, g1, g2, g3, hd⟩ := HRR.out.kept G4.out (by simp)
                have HSS := Lib.hid (HSS.out.kept G4.out (fun k e => by cases e))
                have HGG := Lib.hid (HGG.out.trans (grown_weaken G4.out _))
                go_wp2
                refine bodyPost_ret (v := .agg #[.int .i64 1, .int .i64 0, .int .i64 q', .int .i64 S]) (by simp (maxDischargeDepth := 8) [results, Try.results136, go_sem, *]) rfl ?_
                exact ⟨1, 0, q', S, rfl, grown_setN (grown_setN (grown_setN (grown_setN HGG.out (Nat.le_refl _) _ _) (Nat.le_refl _) _ _) (Nat.le_refl _) _ _) (Nat.le_refl _) _ _, sr_set (sr_set (sr_set (sr_set HSS.out _ _ _ hsl) _ _ _ hsl) _ _ _ hsl) _ _ _ hsl⟩
              · have hn1 : (gq != 1) = true := by simp [h1]
                have hq2 : q' ≠ 1 := fun e => h1 (by rw [← HQ.out, e]; unfold gcdI; simp)
                go_wp2_with fail
                go_at_call 96
                refine (CG.out _).mono ?_
                rintro e wg ⟨rfl, rfl⟩
                go_wp2
                refine ⟨⟨.int .i64 (q' - 1), _, _, _, _, _, _, ⟨trivial, q' - 1, rfl, by omega, by omega⟩, rfl⟩, ?_⟩
                show (q' - 1).toNat < q'.toNat
                omega
          · have hm0 := Int.emod_nonneg q (show S ≠ 0 by omega)
            have hm1 := Int.emod_lt_of_pos q (show 0 < S by omega)
            have hm2 : q.tmod S = q % S := Int.tmod_eq_emod_of_nonneg (by omega)
            obtain ⟨y, hy⟩ : ∃ y, q % S = y := ⟨_, rfl⟩
            rw [hy] at hm0 hm1 hm2
            have hj1 : 1 ≤ j' := by omega
            clear hj hy
            go_wp2
            refine ⟨⟨by first | trivial | rfl, y + 1, j' - 1, congrArg (Value.int .i64) (by omega), congrArg (Value.int .i64) (by omega), by omega, by omega, by omega⟩, ?_⟩
            simp only [intOf]
            omega
      · by_cases hz1 : z = 1
        · subst hz1
          have hsl5 := HS5.out.lt
          have hwl5 : w.heap.size < w5.heap.size := HR5.out.2.2.2.2.2.2.2.2
          go_wp2_with fail
          go_at_call 100
          refine (l01Pick_any s w5.heap.size 4 a n cap [1, 1, 0, -1] _ (sr_alloc HS5.out _) (by simp) (by omega) (by simp) (by simp) (fun j hj => row_new w5 [1, 1, 0, -1] _ j hj)).mono ?_
          rintro e w6 ⟨v1, -, rfl, hg6, hs6⟩
          have HR6 := Lib.hid ((HR5.out.kept (World.grownBy_alloc _ _ none) (by simp)).kept hg6 (fun e => by simp at e; omega))
          have HG6 := Lib.hid ((HG5.out.trans (World.grownBy_alloc _ _ _)).trans hg6)
          have hsl6 := hs6.lt
          have hwl6 : w.heap.size < w6.heap.size := HR6.out.2.2.2.2.2.2.2.2
          clear hg6 hsl5 hwl5
          go_wp2_with fail
          go_at_call 100
          refine (l01Pick_any s w6.heap.size 3 a n cap [2, 1, -1] _ (sr_alloc hs6 _) (by simp) (by omega) (by simp) (by simp) (fun j hj => row_new w6 [2, 1, -1] _ j hj)).mono ?_
          rintro e w7 ⟨v2, -, rfl, hg7, hs7⟩
          obtain ⟨d0, d1, d2, d3, g0, g1, g2, g3, hd⟩ := (HR6.out.kept (World.grownBy_alloc _ _ none) (by simp)).kept hg7 (fun e => by simp at e; omega)
          have HGG := Lib.hid ((HG6.out.trans (World.grownBy_alloc _ _ _)).trans hg7)
          have HSS := Lib.hid hs7
          clear hg7 hs7 hs6
          go_wp2
          refine bodyPost_ret (v := .agg #[.int .i64 1, .int .i64 0, .int .i64 v1, .int .i64 v2]) (by simp (maxDischargeDepth := 8) [results, Try.results136, go_sem, *]) rfl ?_
          exact ⟨1, 0, v1, v2, rfl, grown_setN (grown_setN (grown_setN (grown_setN HGG.out (Nat.le_refl _) _ _) (Nat.le_refl _) _ _) (Nat.le_refl _) _ _) (Nat.le_refl _) _ _, sr_set (sr_set (sr_set (sr_set HSS.out _ _ _ hsl) _ _ _ hsl) _ _ _ hsl) _ _ _ hsl⟩
        · have hn0 : (z == 0) = false := by simp [hz0]
          have hn1 : (z == 1) = false := by simp [hz1]
          obtain ⟨c0, c1, c2, c3, f0, f1, f2, f3, hb⟩ := HX5.out
          obtain ⟨d0, d1, d2, d3, g0, g1, g2, g3, hd⟩ := HR5.out
          have HGG := Lib.hid HG5.out
          have HSS := Lib.hid HS5.out
          go_wp2
          refine bodyPost_ret (v := .agg #[.int .i64 x0, .int .i64 y0, .int .i64 u, .int .i64 v]) (by simp (maxDischargeDepth := 8) [results, Try.results136, go_sem, *]) rfl ?_
          exact ⟨x0, y0, u, v, rfl, grown_setN (grown_setN (grown_setN (grown_setN HGG.out (Nat.le_refl _) _ _) (Nat.le_refl _) _ _) (Nat.le_refl _) _ _) (Nat.le_refl _) _ _, sr_set (sr_set (sr_set (sr_set HSS.out _ _ _ hsl) _ _ _ hsl) _ _ _ hsl) _ _ _ hsl⟩
end Go.Proofs.Ytoenlpkphekbnaa
