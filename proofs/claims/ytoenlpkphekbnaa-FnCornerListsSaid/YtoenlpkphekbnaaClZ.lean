/-
  Corners and lists of whole numbers, drawn; long expansions and tangents lead back; sums are normal (own work).
-/
import Derived.Test.YtoenlpkphekbnaaDrw3
import Derived.Test.YtoenlpkphekbnaaCor
import Derived.Test.YtoenlpkphekbnaaRow
import Derived.Test.YtoenlpkphekbnaaBlk
import Derived.Test.YtoenlpkphekbnaaBk4
import Derived.Test.YtoenlpkphekbnaaSum
import Derived.Test.YtoenlpkphekbnaaSum2
import Derived.Test.YtoenlpkphekbnaaTan
import Derived.Test.YtoenlpkphekbnaaCoe
import Derived.Test.YtoenlpkphekbnaaList
import Derived.Test.YtoenlpkphekbnaaMark
import Derived.Deep.DeepCutAuto
import Derived.OpenShut
import Derived.BigRegion
import Derived.Lib.MinMax
import Derived.Deep.Cut
import Derived.OwnWalk
namespace Go.Proofs.Ytoenlpkphekbnaa
open Go.ChangeShapes Go.WideShapes Go.ChangeAt Go.RowKit
set_option linter.unusedVariables false
set_option maxRecDepth 100000
set_option linter.unusedSimpArgs false
set_option maxRecDepth 100000

theorem grown_of_below {w w' : World} (hb : Below w.heap.size w w') (row : Option Nat) : w.grownBy w' row := ⟨hb.os, hb.tape, hb.output, hb.size, fun i hi _ => hb.block i hi⟩
theorem Sr.below {w w' : World} {s : Nat} {a : Option Addr} {n cap : Nat} (h : Sr w s a n cap) (hb : Below w.heap.size w w') : Sr w' s a n cap := h.kept (grown_of_below hb none) (fun k e => by cases e)
theorem Bk2.grows {w w' : World} {g : Nat} {r : Option Nat} {a b : Int} (h : Bk2 w g a b) (hg : w.grownBy w' r) (hne : r ≠ some g) : Bk2 w' g a b := h.same (hg.block g h.2.2 (fun e => hne e.symm))
theorem Byt.mono {w : World} {s s' : Nat} {a : Option Addr} {n : Nat} (h : Byt w s a n) (hs : s ≤ s') : Byt w s' a n := by
  intro hn
  obtain ⟨b, off, e, hb, hc⟩ := h hn
  exact ⟨b, off, e, by omega, hc⟩
theorem Byt.over {w w' : World} {a : Option Addr} {n : Nat} (h : Byt w w.heap.size a n) (hb : Below w.heap.size w w') : Byt w' w'.heap.size a n := (h.below hb).mono hb.size
theorem byt_of_row {w : World} {a : Option Addr} {len cap : Nat} {zs : List Int} (h : IsRow .u8 w a len cap zs) : Byt w w.heap.size a len := by
  intro hp
  rcases h with ⟨_, hl, _⟩ | ⟨x, rfl, hl, _, hz, hc, hw⟩
  · omega
  · obtain ⟨b, off, rfl, hc'⟩ := ints_at hc (by omega)
    refine ⟨b, off, rfl, World.block_lt_of_cell? w _ (hc' 0 (by omega)), fun j hj => ⟨zs.getD j 0, ?_, ?_, hc' j (by omega)⟩⟩
    · have := hw (zs.getD j 0) (by rw [List.getD_eq_getElem?_getD, List.getElem?_eq_getElem (by omega)]; exact List.getElem_mem _)
      have := bounds_u8 this
      omega
    · have := hw (zs.getD j 0) (by rw [List.getD_eq_getElem?_getD, List.getElem?_eq_getElem (by omega)]; exact List.getElem_mem _)
      have := bounds_u8 this
      omega
theorem primP_bd {x y m : Int} (hm : m ≤ 1000000) (b1 : -m ≤ x) (b2 : x ≤ m) (b3 : -m ≤ y) (b4 : y ≤ m) (hne : (x == 0 && y == 0) = false) :
    (-1000000 ≤ (primP (x, y)).1 ∧ (primP (x, y)).1 ≤ 1000000) ∧ (-1000000 ≤ (primP (x, y)).2 ∧ (primP (x, y)).2 ≤ 1000000) ∧ ¬ ((primP (x, y)).1 = 0 ∧ (primP (x, y)).2 = 0) := by
  have d1 : gcdI x y ∣ x := by unfold gcdI; exact Int.gcd_dvd_left ..
  have d2 : gcdI x y ∣ y := by unfold gcdI; exact Int.gcd_dvd_right ..
  have e1 := Int.mul_tdiv_cancel' d1
  have e2 := Int.mul_tdiv_cancel' d2
  have k1 := tdiv_bd (a := x) (b := gcdI x y) 1000000 (by omega) (by omega)
  have k2 := tdiv_bd (a := y) (b := gcdI x y) 1000000 (by omega) (by omega)
  unfold primP
  dsimp only
  rw [show IntKind.i64.wrap (x.tdiv (gcdI x y)) = x.tdiv (gcdI x y) by rw [IntKind.wrap_i64]; omega, show IntKind.i64.wrap (y.tdiv (gcdI x y)) = y.tdiv (gcdI x y) by rw [IntKind.wrap_i64]; omega]
  refine ⟨k1, k2, fun ⟨z1, z2⟩ => ?_⟩
  rw [z1, Int.mul_zero] at e1
  rw [z2, Int.mul_zero] at e2
  subst e1
  subst e2
  simp at hne
theorem l01DrawPrimitive_bd (s : Nat) (a : Option Addr) (n cap : Nat) (m : Int) (w : World) (h : Sr w s a n cap) (hm : 1 ≤ m) (hm2 : m ≤ 1000000) :
    Calls Try.prog 89 #[.pointer (some ⟨s, 0, none⟩), .int .i64 m] w fun e w' => ∃ x y : Int, e = .returned (.agg #[.int .i64 x, .int .i64 y]) ∧ ((-1000000 ≤ x ∧ x ≤ 1000000) ∧ (-1000000 ≤ y ∧ y ≤ 1000000) ∧ ¬ (x = 0 ∧ y = 0)) ∧ Drew s a n cap w w' := by
  have heq := eq_pt
  have HS := Lib.hid h
  have hsl := h.lt
  clear h
  go_enter Try.func89, Try.ntmps89
  go_wp2_with fail
  go_at_call 108
  refine (l01DrawPoint_any s a n cap m _ (sr_alloc HS.out _) hm hm2).mono ?_
  rintro e w1 ⟨x, y, rfl, b1, b2, b3, b4, hg1, hs1⟩
  have HK := Lib.hid (isPt_of hm2 b1 b2 b3 b4)
  have HP := Lib.hid (fun hne => primP_bd hm2 b1 b2 b3 b4 hne)
  have T1 := Lib.hid ((two_new w (.int .i64 0) (.int .i64 0) 30).kept hg1 (fun e => by cases e; omega))
  have G1 := Lib.hid ((World.grownBy_alloc w _ _).trans hg1)
  have hsl1 := hs1.lt
  obtain ⟨c0, c1, f0, f1, hb⟩ := T1.out
  clear hg1 b1 b2 b3 b4
  cases hz : (x == 0 && y == 0)
  · have HZ := Lib.hid hz
    go_wp2_with fail
    go_at_call 99
    refine (l01Part_any x y _ HK.out HZ.out).mono ?_
    rintro e w2 ⟨rfl, hb2⟩
    have G2 := Lib.hid (grown_below (grown_new (World.grownBy.refl w1 none) _) hb2)
    clear c0 c1 f0 f1 hb hb2
    obtain ⟨c0, c1, f0, f1, hb⟩ := T1.out.kept G2.out (by simp)
    have hs2 := Lib.hid (hs1.kept G2.out (fun k e => by cases e))
    clear hs1
    go_wp2
    refine bodyPost_ret (v := .agg #[.int .i64 (primP (x, y)).1, .int .i64 (primP (x, y)).2]) (by simp (maxDischargeDepth := 8) [results, Try.results89, go_sem, *]) rfl ?_
    exact ⟨_, _, rfl, HP.out HZ.out, grown_setN (grown_setN (G1.out.trans (grown_weaken G2.out _)) (Nat.le_refl _) _ _) (Nat.le_refl _) _ _, sr_set (sr_set hs2.out _ _ _ hsl) _ _ _ hsl⟩
  · have HS1 := Lib.hid hs1
    clear hs1
    go_wp2
    refine bodyPost_ret (v := .agg #[.int .i64 1, .int .i64 0]) (by simp (maxDischargeDepth := 8) [results, Try.results89, go_sem, *]) rfl ?_
    exact ⟨1, 0, rfl, by omega, by repeat' (first | exact G1.out | (refine grown_setN ?_ (by first | exact Nat.le_refl _ | omega) _ _) | (refine grown_new ?_ _)), by repeat' (first | exact HS1.out | (refine sr_set ?_ _ _ _ (by omega)) | (refine sr_alloc ?_ _))⟩
theorem sq_pos {x y : Int} (h : ¬ (x = 0 ∧ y = 0)) : detP (x, y) (-y, x) ≠ 0 := by
  unfold detP
  dsimp only
  intro e
  have h1 : 0 ≤ x * x := by rcases Int.le_total 0 x with h | h; exact Int.mul_nonneg h h; exact Int.mul_nonneg_of_nonpos_of_nonpos h h
  have h2 : 0 ≤ y * y := by rcases Int.le_total 0 y with h | h; exact Int.mul_nonneg h h; exact Int.mul_nonneg_of_nonpos_of_nonpos h h
  have h3 : y * -y = -(y * y) := Int.mul_neg ..
  have z1 : x * x = 0 := by omega
  have z2 : y * y = 0 := by omega
  exact h ⟨by rcases Int.mul_eq_zero.1 z1 with h | h <;> exact h, by rcases Int.mul_eq_zero.1 z2 with h | h <;> exact h⟩
def ivOf : Option Value → Int
  | some (.int _ n) => n
  | _ => 0
theorem Four.ivs {w : World} {b : Nat} {x y u v : Int} (h : Four w b (.int .i64 x) (.int .i64 y) (.int .i64 u) (.int .i64 v)) : ivOf (w.cell? ⟨b, 2, none⟩) = u ∧ ivOf (w.cell? ⟨b, 3, none⟩) = v := ⟨by rw [h.2.2.1]; rfl, by rw [h.2.2.2.1]; rfl⟩
theorem Four.set23 {w : World} {b : Nat} {c0 c1 c2 c3 : Value} (h : Four w b c0 c1 c2 c3) (d2 d3 : Value) : Four ((w.setCell ⟨b, 2, none⟩ d2).setCell ⟨b, 3, none⟩ d3) b c0 c1 d2 d3 := by
  obtain ⟨h0, h1, h2, h3, f0, f1, f2, f3, hb⟩ := h
  have o : ∀ (w : World) (i j : Nat) (v : Value), i ≠ j → (w.setCell ⟨b, i, none⟩ v).cell? ⟨b, j, none⟩ = w.cell? ⟨b, j, none⟩ := fun w i j v hn => World.cell?_setCell_other _ _ _ _ (fun e => hn (by cases e; rfl))
  refine ⟨?_, ?_, ?_, ?_, by simpa using f0, by simpa using f1, by simpa using f2, by simpa using f3, by simpa using hb⟩
  · rw [o _ _ _ _ (by omega), o _ _ _ _ (by omega)]; exact h0
  · rw [o _ _ _ _ (by omega), o _ _ _ _ (by omega)]; exact h1
  · rw [o _ _ _ _ (by omega)]; exact World.cell?_setCell_same _ _ _ h2
  · exact World.cell?_setCell_same _ _ _ ((o _ _ _ _ (by omega)).trans h3)
set_option maxHeartbeats 8000000 in
theorem l02Draw_any (s : Nat) (a : Option Addr) (n cap : Nat) (w : World) (h : Sr w s a n cap) :
    Calls Try.prog 136 #[.pointer (some ⟨s, 0, none⟩)] w fun e w' => ∃ x0 y0 x1 y1 : Int, e = .returned (.agg #[.int .i64 x0, .int .i64 y0, .int .i64 x1, .int .i64 y1]) ∧ Drew s a n cap w w' := by
  have HS := Lib.hid h
  have hsl := h.lt
  clear h
  go_enter Try.func136, Try.ntmps136
  go_wp2_with fail
  go_at_call 100
  refine (l01Pick_any s (w.heap.size + 1) 5 a n cap [3, 5, 9, 30, 900] _ (sr_alloc (sr_alloc HS.out _) _) (by simp) (by omega) (by simp) (by simp) (fun j hj => ?_)).mono ?_
  · have h := fun t => row_new (w.alloc (.cells #[.int .i64 0, .int .i64 0, .int .i64 0, .int .i64 0] 52)) [3, 5, 9, 30, 900] t j hj
    simp only [World.size_alloc] at h
    exact h _
  rintro e w1 ⟨m, hm, rfl, hg1, hs1⟩
  have hmb : 1 ≤ m ∧ m ≤ 1000000 := by simp at hm; omega
  have HR1 := Lib.hid (((four_new w (.int .i64 0) (.int .i64 0) (.int .i64 0) (.int .i64 0) 52).kept (World.grownBy_alloc _ _ none) (by simp)).kept hg1 (fun e => by cases e; omega))
  have G1 := Lib.hid (((World.grownBy_alloc w _ _).trans (World.grownBy_alloc _ _ _)).trans hg1)
  have hwl : w.heap.size < w1.heap.size := HR1.out.2.2.2.2.2.2.2.2
  clear hg1 hm
  go_wp2_with fail
  go_at_call 89
  refine (l01DrawPrimitive_bd s a n cap m _ hs1 hmb.1 hmb.2).mono ?_
  rintro e w2 ⟨x0, y0, rfl, ⟨p1, p2, pn⟩, hg2, hs2⟩
  have HR2 := Lib.hid (HR1.out.kept hg2 (fun e => by simp at e; omega))
  have G2 := Lib.hid (G1.out.trans hg2)
  have hwl2 := hg2.size
  clear hg2 hs1
  go_wp2_with fail
  go_at_call 89
  refine (l01DrawPrimitive_bd s a n cap m _ hs2 hmb.1 hmb.2).mono ?_
  rintro e w3 ⟨x1, y1, rfl, ⟨q1, q2, -⟩, hg3, hs3⟩
  have HR3 := Lib.hid (HR2.out.kept hg3 (fun e => by simp at e; omega))
  have G3 := Lib.hid (G2.out.trans hg3)
  have hwl3 := hg3.size
  have hs3l := hs3.lt
  clear hg3 hs2
  obtain ⟨X, hX⟩ : ∃ X, w3.heap.size = X := ⟨_, rfl⟩
  have HX3 := Lib.hid (four_new w3 (.int .i64 x0) (.int .i64 y0) (.int .i64 x1) (.int .i64 y1) 52)
  rw [hX] at HX3
  have HR3' := Lib.hid (HR3.out.kept (World.grownBy_alloc w3 (.cells #[.int .i64 x0, .int .i64 y0, .int .i64 x1, .int .i64 y1] 52) none) (by simp))
  have G3' := Lib.hid (grown_new G3.out (.cells #[.int .i64 x0, .int .i64 y0, .int .i64 x1, .int .i64 y1] 52))
  have S3' := Lib.hid (sr_alloc hs3 (.cells #[.int .i64 x0, .int .i64 y0, .int .i64 x1, .int .i64 y1] 52))
  have hRX : w.heap.size < X := by omega
  have hsX : s < X := by omega
  clear hs3 HR1 HR2 HR3 G1 G2 G3 hwl hwl2 hwl3 hs3l hmb
  have HPN := Lib.hid (sq_pos pn)
  go_wp2_with fail
  (try rw [hX])
  clear hX
  go_loopw [] (fun wr => ∃ u v : Int, (-1000000 ≤ u ∧ u ≤ 1000000) ∧ (-1000000 ≤ v ∧ v ≤ 1000000) ∧ Four wr w.heap.size (.int .i64 0) (.int .i64 0) (.int .i64 0) (.int .i64 0) ∧ Four wr X (.int .i64 x0) (.int .i64 y0) (.int .i64 u) (.int .i64 v) ∧ w.grownBy wr (some s) ∧ Sr wr s a n cap) (fun wr => if detP (x0, y0) (ivOf (wr.cell? ⟨X, 2, none⟩), ivOf (wr.cell? ⟨X, 3, none⟩)) = 0 then 1 else 0)
  case atStart => exact ⟨x1, y1, q1, q2, HR3'.out, HX3.out, G3'.out, S3'.out⟩
  case round =>
    clear HR3' HX3 G3' S3' q1 q2
    obtain ⟨u, v, b1, b2, hR, hX, hg, hs⟩ := hrel
    have HR := Lib.hid hR
    have HX := Lib.hid hX
    have HG := Lib.hid hg
    have HS1 := Lib.hid hs
    clear hR hg hs
    obtain ⟨D, hD⟩ : ∃ D, detP (x0, y0) (u, v) = D := ⟨_, rfl⟩
    have HD := Lib.hid (fun w => by have := l01Det_any x0 y0 u v w ⟨by omega, by omega⟩ ⟨by omega, by omega⟩ ⟨by omega, by omega⟩ ⟨by omega, by omega⟩; rwa [hD] at this)
    obtain ⟨c0, c1, c2, c3, f0, f1, f2, f3, hb⟩ := hX
    have HDD := Lib.hid hD
    clear hD
    go_wp2_with fail
    go_at_call 134
    refine (HD.out _).mono ?_
    rintro e w4 ⟨rfl, hb4⟩
    have G4 := Lib.hid (grown_below (World.grownBy.refl _ none) hb4)
    clear hb4 c0 c1 c2 c3 f0 f1 f2 f3 hb
    have HR4 := Lib.hid (HR.out.kept G4.out (by simp))
    have HX4 := Lib.hid (HX.out.kept G4.out (by simp))
    have HS4 := Lib.hid (HS1.out.kept G4.out (fun k e => by cases e))
    have HG4 := Lib.hid (HG.out.trans (grown_weaken G4.out _))
    by_cases hz : D = 0
    · subst hz
      obtain ⟨c0, c1, c2, c3, f0, f1, f2, f3, hb⟩ := HX4.out
      have hw1 : IntKind.i64.wrap (-y0) = -y0 := by rw [IntKind.wrap_i64]; omega
      go_wp2
      refine ⟨⟨-y0, x0, by omega, by omega, (HR4.out.other (by omega) _ _).other (by omega) _ _, HX4.out.set23 _ _, grown_setN (grown_setN HG4.out (by omega) _ _) (by omega) _ _, sr_set (sr_set HS4.out _ _ _ hsX) _ _ _ hsX⟩, ?_⟩
      rw [(HX4.out.set23 (.int .i64 (-y0)) (.int .i64 x0)).ivs.1, (HX4.out.set23 (.int .i64 (-y0)) (.int .i64 x0)).ivs.2, HX.out.ivs.1, HX.out.ivs.2, if_neg HPN.out, if_pos HDD.out]
      omega
    · have hne : (D == 0) = false := by simp [hz]
      obtain ⟨c0, c1, c2, c3, f0, f1, f2, f3, hb⟩ := HX4.out
      go_wp2_with fail
      go_at_call 87
      refine (l01Next_any s a n cap 12 _ HS4.out).mono ?_
      rintro e w5 ⟨z, rfl, -, -, hg5, hs5⟩
      clear c0 c1 c2 c3 f0 f1 f2 f3 hb
      have HR5 := Lib.hid (HR4.out.kept hg5 (fun e => by simp at e; omega))
      have HX5 := Lib.hid (HX4.out.kept hg5 (fun e => by simp at e; omega))
      have HG5 := Lib.hid (HG4.out.trans hg5)
      have HS5 := Lib.hid hs5
      clear hg5 hs5 hne hz
      by_cases hz0 : z = 0
      · subst hz0
        go_wp2_with fail
        go_at_call 87
        refine (l01Next_any s a n cap 40 _ HS5.out).mono ?_
        rintro e w6 ⟨t, rfl, -, ht, hg6, hs6⟩
        obtain ⟨t1, t2⟩ := ht (by omega)
        have HR6 := Lib.hid (HR5.out.kept hg6 (fun e => by simp at e; omega))
        have HG6 := Lib.hid (HG5.out.trans hg6)
        clear hg6 ht
        obtain ⟨S, hS⟩ : ∃ S, 1 + t = S := ⟨_, rfl⟩
        go_wp2_with fail
        go_at_call 87
        refine (l01Next_any s a n cap 20 _ hs6).mono ?_
        rintro e w7 ⟨k, rfl, -, hk, hg7, hs7⟩
        obtain ⟨k1, k2⟩ := hk (by omega)
        have HRR := Lib.hid (HR6.out.kept hg7 (fun e => by simp at e; omega))
        have HGG := Lib.hid (HG6.out.trans hg7)
        have HSS := Lib.hid hs7
        clear hg7 hk hs6 hs7
        (try rw [hS])
        have hS1 : 1 ≤ S ∧ S ≤ 40 := by omega
        clear hS t1 t2
        obtain ⟨j, rfl⟩ : ∃ j : Nat, k = j := ⟨k.toNat, by omega⟩
        go_wp2_with fail
        go_loopw [5, 7] (fun c i wr => wr = w7 ∧ ∃ (q : Int) (j : Nat), c = .int .i64 q ∧ i = .int .i64 j ∧ j ≤ 19 ∧ 1 ≤ q ∧ q ≤ S) (fun c i _ => (intOf i).toNat)
        case atStart => exact ⟨rfl, 1, j, rfl, rfl, by omega, by omega, by omega⟩
        case round =>
          obtain ⟨rfl, q, j', rfl, rfl, j1, q1, q2⟩ := hrel
          by_cases hj : j' = 0
          · subst hj
            go_wp2_with fail
            go_loopw [5] (fun c wr2 => wr2 = wr ∧ ∃ q : Int, c = .int .i64 q ∧ 1 ≤ q ∧ q ≤ S) (fun c _ => (intOf c).toNat)
            case atStart => exact ⟨rfl, q, rfl, q1, q2⟩
            case round =>
              obtain ⟨rfl, q', rfl, r1, r2⟩ := hrel
              clear q1 q2
              obtain ⟨gq, hgq⟩ : ∃ g, gcdI S q' = g := ⟨_, rfl⟩
              have CG := Lib.hid (fun w => (l01Gcd_any S q' w ⟨by omega, by omega⟩ ⟨by omega, by omega⟩))
              rw [hgq] at CG
              have HQ := Lib.hid hgq
              clear hgq
              by_cases h1 : gq = 1
              · subst h1
                go_wp2_with fail
                go_at_call 96
                refine (CG.out _).mono ?_
                rintro e wg ⟨rfl, rfl⟩
                go_wp2_with fail
                go_at_call 125
                refine (l02Normal_any _ _ _).mono ?_
                rintro e wn ⟨rfl, hb4⟩
                have G4 := Lib.hid (grown_below (World.grownBy.refl _ none) hb4)
                clear hb4
                obtain ⟨d0, d1, d2, d3, g0, g1, g2, g3, hd⟩ := HRR.out.kept G4.out (by simp)
                have HSS := Lib.hid (HSS.out.kept G4.out (fun k e => by cases e))
                have HGG := Lib.hid (HGG.out.trans (grown_weaken G4.out _))
                go_wp2
                refine bodyPost_ret (v := .agg #[.int .i64 1, .int .i64 0, .int .i64 q', .int .i64 S]) (by simp (maxDischargeDepth := 8) [results, Try.results136, go_sem, *]) rfl ?_
                exact ⟨1, 0, q', S, rfl, grown_setN (grown_setN (grown_setN (grown_setN HGG.out (Nat.le_refl _) _ _) (Nat.le_refl _) _ _) (Nat.le_refl _) _ _) (Nat.le_refl _) _ _, sr_set (sr_set (sr_set (sr_set HSS.out _ _ _ hsl) _ _ _ hsl) _ _ _ hsl) _ _ _ hsl⟩
              · have hn1 : (gq != 1) = true := by simp [h1]
                have hq2 : q' ≠ 1 := fun e => h1 (by rw [← HQ.out, e]; unfold gcdI; simp)
                go_wp2_with fail
                go_at_call 96
                refine (CG.out _).mono ?_
                rintro e wg ⟨rfl, rfl⟩
                go_wp2
                refine ⟨⟨.int .i64 (q' - 1), _, _, _, _, _, _, ⟨trivial, q' - 1, rfl, by omega, by omega⟩, rfl⟩, ?_⟩
                show (q' - 1).toNat < q'.toNat
                omega
          · have hm0 := Int.emod_nonneg q (show S ≠ 0 by omega)
            have hm1 := Int.emod_lt_of_pos q (show 0 < S by omega)
            have hm2 : q.tmod S = q % S := Int.tmod_eq_emod_of_nonneg (by omega)
            obtain ⟨y, hy⟩ : ∃ y, q % S = y := ⟨_, rfl⟩
            rw [hy] at hm0 hm1 hm2
            have hj1 : 1 ≤ j' := by omega
            clear hj hy
            go_wp2
            refine ⟨⟨by first | trivial | rfl, y + 1, j' - 1, congrArg (Value.int .i64) (by omega), congrArg (Value.int .i64) (by omega), by omega, by omega, by omega⟩, ?_⟩
            simp only [intOf]
            omega
      · by_cases hz1 : z = 1
        · subst hz1
          have hsl5 := HS5.out.lt
          have hwl5 : w.heap.size < w5.heap.size := HR5.out.2.2.2.2.2.2.2.2
          go_wp2_with fail
          go_at_call 100
          refine (l01Pick_any s w5.heap.size 4 a n cap [1, 1, 0, -1] _ (sr_alloc HS5.out _) (by simp) (by omega) (by simp) (by simp) (fun j hj => row_new w5 [1, 1, 0, -1] _ j hj)).mono ?_
          rintro e w6 ⟨v1, -, rfl, hg6, hs6⟩
          have HR6 := Lib.hid ((HR5.out.kept (World.grownBy_alloc _ _ none) (by simp)).kept hg6 (fun e => by simp at e; omega))
          have HG6 := Lib.hid ((HG5.out.trans (World.grownBy_alloc _ _ _)).trans hg6)
          have hsl6 := hs6.lt
          have hwl6 : w.heap.size < w6.heap.size := HR6.out.2.2.2.2.2.2.2.2
          clear hg6 hsl5 hwl5
          go_wp2_with fail
          go_at_call 100
          refine (l01Pick_any s w6.heap.size 3 a n cap [2, 1, -1] _ (sr_alloc hs6 _) (by simp) (by omega) (by simp) (by simp) (fun j hj => row_new w6 [2, 1, -1] _ j hj)).mono ?_
          rintro e w7 ⟨v2, -, rfl, hg7, hs7⟩
          obtain ⟨d0, d1, d2, d3, g0, g1, g2, g3, hd⟩ := (HR6.out.kept (World.grownBy_alloc _ _ none) (by simp)).kept hg7 (fun e => by simp at e; omega)
          have HGG := Lib.hid ((HG6.out.trans (World.grownBy_alloc _ _ _)).trans hg7)
          have HSS := Lib.hid hs7
          clear hg7 hs7 hs6
          go_wp2
          refine bodyPost_ret (v := .agg #[.int .i64 1, .int .i64 0, .int .i64 v1, .int .i64 v2]) (by simp (maxDischargeDepth := 8) [results, Try.results136, go_sem, *]) rfl ?_
          exact ⟨1, 0, v1, v2, rfl, grown_setN (grown_setN (grown_setN (grown_setN HGG.out (Nat.le_refl _) _ _) (Nat.le_refl _) _ _) (Nat.le_refl _) _ _) (Nat.le_refl _) _ _, sr_set (sr_set (sr_set (sr_set HSS.out _ _ _ hsl) _ _ _ hsl) _ _ _ hsl) _ _ _ hsl⟩
        · have hn0 : (z == 0) = false := by simp [hz0]
          have hn1 : (z == 1) = false := by simp [hz1]
          obtain ⟨c0, c1, c2, c3, f0, f1, f2, f3, hb⟩ := HX5.out
          obtain ⟨d0, d1, d2, d3, g0, g1, g2, g3, hd⟩ := HR5.out
          have HGG := Lib.hid HG5.out
          have HSS := Lib.hid HS5.out
          go_wp2
          refine bodyPost_ret (v := .agg #[.int .i64 x0, .int .i64 y0, .int .i64 u, .int .i64 v]) (by simp (maxDischargeDepth := 8) [results, Try.results136, go_sem, *]) rfl ?_
          exact ⟨x0, y0, u, v, rfl, grown_setN (grown_setN (grown_setN (grown_setN HGG.out (Nat.le_refl _) _ _) (Nat.le_refl _) _ _) (Nat.le_refl _) _ _) (Nat.le_refl _) _ _, sr_set (sr_set (sr_set (sr_set HSS.out _ _ _ hsl) _ _ _ hsl) _ _ _ hsl) _ _ _ hsl⟩
set_option maxHeartbeats 8000000 in
theorem l02Spoil_any (s : Nat) (a : Option Addr) (n cap : Nat) (w : World) (h : Sr w s a n cap) :
    Calls Try.prog 110 #[.pointer (some ⟨s, 0, none⟩)] w fun e w' => ∃ x0 y0 x1 y1 : Int, e = .returned (.agg #[.int .i64 x0, .int .i64 y0, .int .i64 x1, .int .i64 y1]) ∧ Drew s a n cap w w' := by
  have HS := Lib.hid h
  have hsl := h.lt
  clear h
  go_enter Try.func110, Try.ntmps110
  go_wp2_with fail
  go_at_call 136
  refine (l02Draw_any s a n cap _ (sr_alloc HS.out _)).mono ?_
  rintro e w3 ⟨x0, y0, x1, y1, rfl, hg3, hs3⟩
  have HR3 := Lib.hid ((four_new w (.int .i64 0) (.int .i64 0) (.int .i64 0) (.int .i64 0) 52).kept hg3 (fun e => by cases e; omega))
  have G3 := Lib.hid ((World.grownBy_alloc w _ _).trans hg3)
  have hwl3 : w.heap.size < w3.heap.size := HR3.out.2.2.2.2.2.2.2.2
  have hs3l := hs3.lt
  clear hg3
  obtain ⟨X, hX⟩ : ∃ X, w3.heap.size = X := ⟨_, rfl⟩
  have HX3 := Lib.hid (four_new w3 (.int .i64 x0) (.int .i64 y0) (.int .i64 x1) (.int .i64 y1) 52)
  rw [hX] at HX3
  have HR3' := Lib.hid (HR3.out.kept (World.grownBy_alloc w3 (.cells #[.int .i64 x0, .int .i64 y0, .int .i64 x1, .int .i64 y1] 52) none) (by simp))
  have G3' := Lib.hid (grown_new G3.out (.cells #[.int .i64 x0, .int .i64 y0, .int .i64 x1, .int .i64 y1] 52))
  have hRX : w.heap.size < X := by omega
  have hsX : s < X := by omega
  clear HR3 G3 hwl3 hs3l
  go_wp2_with fail
  go_at_call 87
  refine (l01Next_any s a n cap 50 _ (sr_alloc hs3 _)).mono ?_
  rintro e w5 ⟨z, rfl, -, -, hg5, hs5⟩
  have HRR := Lib.hid (HR3'.out.kept hg5 (fun e => by simp at e; omega))
  have HXX := Lib.hid (HX3.out.kept hg5 (fun e => by simp at e; omega))
  have HGG := Lib.hid (G3'.out.trans hg5)
  have HSS := Lib.hid hs5
  clear hg5 hs5 hs3 HR3' HX3 G3'
  (try rw [hX])
  clear hX
  by_cases hz0 : z = 0
  · subst hz0
    obtain ⟨c0, c1, c2, c3, f0, f1, f2, f3, hb⟩ := HXX.out
    obtain ⟨d0, d1, d2, d3, g0, g1, g2, g3, hd⟩ := HRR.out
    go_wp2
    refine bodyPost_ret (v := .agg #[.int .i64 x0, .int .i64 y0, .int .i64 x0, .int .i64 y0]) (by simp (maxDischargeDepth := 8) [results, Try.results110, go_sem, *]) rfl ?_
    exact ⟨x0, y0, x0, y0, rfl, by repeat' (first | (with_reducible exact HGG.out) | (with_reducible refine grown_setN ?_ (by first | exact Nat.le_refl _ | omega) _ _)), by repeat' (first | (with_reducible exact HSS.out) | (with_reducible refine sr_set ?_ _ _ _ (by omega)))⟩
  · by_cases hz1 : z = 1
    · subst hz1
      obtain ⟨c0, c1, c2, c3, f0, f1, f2, f3, hb⟩ := HXX.out
      obtain ⟨d0, d1, d2, d3, g0, g1, g2, g3, hd⟩ := HRR.out
      go_wp2
      refine bodyPost_ret (v := .agg #[.int .i64 2, .int .i64 4, .int .i64 x1, .int .i64 y1]) (by simp (maxDischargeDepth := 8) [results, Try.results110, go_sem, *]) rfl ?_
      exact ⟨2, 4, x1, y1, rfl, by repeat' (first | (with_reducible exact HGG.out) | (with_reducible refine grown_setN ?_ (by first | exact Nat.le_refl _ | omega) _ _)), by repeat' (first | (with_reducible exact HSS.out) | (with_reducible refine sr_set ?_ _ _ _ (by omega)))⟩
    · by_cases hz2 : z = 2
      · subst hz2
        obtain ⟨c0, c1, c2, c3, f0, f1, f2, f3, hb⟩ := HXX.out
        obtain ⟨d0, d1, d2, d3, g0, g1, g2, g3, hd⟩ := HRR.out
        go_wp2
        refine bodyPost_ret (v := .agg #[.int .i64 1000000, .int .i64 999999, .int .i64 (-999999), .int .i64 1000000]) (by simp (maxDischargeDepth := 8) [results, Try.results110, go_sem, *]) rfl ?_
        exact ⟨1000000, 999999, -999999, 1000000, rfl, by repeat' (first | (with_reducible exact HGG.out) | (with_reducible refine grown_setN ?_ (by first | exact Nat.le_refl _ | omega) _ _)), by repeat' (first | (with_reducible exact HSS.out) | (with_reducible refine sr_set ?_ _ _ _ (by omega)))⟩
      · have hn0 : (z == 0) = false := by simp [hz0]
        have hn1 : (z == 1) = false := by simp [hz1]
        have hn2 : (z == 2) = false := by simp [hz2]
        by_cases hz3 : z = 3
        · subst hz3
          clear hn0 hn1 hn2 hz0 hz1 hz2
          go_wp2_with fail
          go_at_call 87
          refine (l01Next_any s a n cap 2 _ HSS.out).mono ?_
          rintro e w6 ⟨i, rfl, -, hi, hg6, hs6⟩
          obtain ⟨i1, i2⟩ := hi (by omega)
          have HRR := Lib.hid (HRR.out.kept hg6 (fun e => by simp at e; omega))
          have HXX := Lib.hid (HXX.out.kept hg6 (fun e => by simp at e; omega))
          have HGG := Lib.hid (HGG.out.trans hg6)
          have HSS := Lib.hid hs6
          clear hg6 hs6 hi
          by_cases hi0 : i = 0
          · subst hi0
            obtain ⟨c0, c1, c2, c3, f0, f1, f2, f3, hb⟩ := HXX.out
            obtain ⟨d0, d1, d2, d3, g0, g1, g2, g3, hd⟩ := HRR.out
            go_wp2
            refine bodyPost_ret (v := .agg #[.int .i64 x0, .int .i64 y0, .int .i64 1000001, .int .i64 y1]) (by simp (maxDischargeDepth := 8) [results, Try.results110, go_sem, *]) rfl ?_
            exact ⟨x0, y0, 1000001, y1, rfl, by repeat' (first | (with_reducible exact HGG.out) | (with_reducible refine grown_setN ?_ (by first | exact Nat.le_refl _ | omega) _ _)), by repeat' (first | (with_reducible exact HSS.out) | (with_reducible refine sr_set ?_ _ _ _ (by omega)))⟩
          · obtain rfl : i = 1 := by omega
            obtain ⟨c0, c1, c2, c3, f0, f1, f2, f3, hb⟩ := HXX.out
            obtain ⟨d0, d1, d2, d3, g0, g1, g2, g3, hd⟩ := HRR.out
            go_wp2
            refine bodyPost_ret (v := .agg #[.int .i64 x0, .int .i64 y0, .int .i64 x1, .int .i64 1000001]) (by simp (maxDischargeDepth := 8) [results, Try.results110, go_sem, *]) rfl ?_
            exact ⟨x0, y0, x1, 1000001, rfl, by repeat' (first | (with_reducible exact HGG.out) | (with_reducible refine grown_setN ?_ (by first | exact Nat.le_refl _ | omega) _ _)), by repeat' (first | (with_reducible exact HSS.out) | (with_reducible refine sr_set ?_ _ _ _ (by omega)))⟩
        · have hn3 : (z == 3) = false := by simp [hz3]
          obtain ⟨c0, c1, c2, c3, f0, f1, f2, f3, hb⟩ := HXX.out
          obtain ⟨d0, d1, d2, d3, g0, g1, g2, g3, hd⟩ := HRR.out
          go_wp2
          refine bodyPost_ret (v := .agg #[.int .i64 x0, .int .i64 y0, .int .i64 x1, .int .i64 y1]) (by simp (maxDischargeDepth := 8) [results, Try.results110, go_sem, *]) rfl ?_
          exact ⟨x0, y0, x1, y1, rfl, by repeat' (first | (with_reducible exact HGG.out) | (with_reducible refine grown_setN ?_ (by first | exact Nat.le_refl _ | omega) _ _)), by repeat' (first | (with_reducible exact HSS.out) | (with_reducible refine sr_set ?_ _ _ _ (by omega)))⟩
theorem Bk4.grows {w w' : World} {g : Nat} {r : Option Nat} {a b c d : Int} (h : Bk4 w g a b c d) (hg : w.grownBy w' r) (hne : r ≠ some g) : Bk4 w' g a b c d := h.same (hg.block g h.2.2 (fun e => hne e.symm))
theorem run_maxD (P : Program) (w : World) (ts : Array TypeId) (t : TypeId) (x y m : Int) (h : max x y = m) : (Builtin.max_ ts t #[.int .i64 x, .int .i64 y]).run P w = .ok (.int .i64 m) w := by
  rw [← h]
  simp [Builtin.max_, Builtin.max2]
  split <;> omega
set_option maxHeartbeats 1600000 in
theorem l01Near_any (s : Nat) (a : Option Addr) (n cap : Nat) (m : Int) (w : World) (h : Sr w s a n cap) (h1 : 0 ≤ m) (h2 : m ≤ 1000000) :
    Calls Try.prog 126 #[.pointer (some ⟨s, 0, none⟩), .int .i64 m] w fun e w' => ∃ v : Int, (-4611686018427387904 ≤ v ∧ v ≤ 4611686018427387904) ∧ e = .returned (.int .i64 v) ∧ Drew s a n cap w w' := by
  have HS := Lib.hid h
  clear h
  have hw : IntKind.i64.wrap (m + 1) = m + 1 := by rw [IntKind.wrap_i64]; omega
  have hw2 : wrap64 (m + 1) = m + 1 := IntWalk.wrap64_in _ ⟨by omega, by omega⟩
  obtain ⟨M, hM⟩ : ∃ M, m + 1 = M := ⟨_, rfl⟩
  rw [hM] at hw hw2
  go_enter Try.func126, Try.ntmps126
  go_wp2_with fail
  go_at_call 87
  refine (l01Next_any s a n cap 14 _ HS.out).mono ?_
  rintro e w1 ⟨v, rfl, -, -, hg1, hs1⟩
  have hlt := hs1.lt
  by_cases hv0 : v = 0
  · subst hv0
    go_wp2_with fail
    go_at_call 100
    refine (l01Pick_any s w1.heap.size 4 a n cap [-1, M, 1099511627776, -4611686018427387904] _ (sr_alloc hs1 _) (by simp) (by omega) (by simp) (by simp) (fun j hj => ?_)).mono ?_
    · exact row_new w1 [-1, M, 1099511627776, -4611686018427387904] _ j hj
    rintro e w2 ⟨v, hv, rfl, hg2, hs2⟩
    have hvb : -4611686018427387904 ≤ v ∧ v ≤ 4611686018427387904 := by simp at hv; omega
    have HD := Lib.hid (show Drew s a n cap w w2 from ⟨(hg1.trans (World.grownBy_alloc w1 _ _)).trans hg2, hs2⟩)
    clear hv hg1 hg2 hs1 hs2
    go_wp2
    go_ret
    exact ⟨v, hvb, rfl, HD.out⟩
  · have hne : (v == 0) = false := by simp [hv0]
    go_wp2_with fail
    go_at_call 87
    refine (l01Next_any s a n cap M _ hs1).mono ?_
    rintro e w2 ⟨u, rfl, -, hu, hg2, hs2⟩
    have hub := hu (by omega)
    have HD := Lib.hid (show Drew s a n cap w w2 from ⟨hg1.trans hg2, hs2⟩)
    clear hu hg1 hg2 hs1 hs2 hne
    go_wp2
    go_ret
    exact ⟨u, by omega, rfl, HD.out⟩
set_option maxHeartbeats 4000000 in
theorem DrawExpansionOfCorner_any (a : Option Addr) (n cap : Nat) (w : World) (hn : n ≤ 9223372036854775807) (hb : Byt w w.heap.size a n) :
    Calls Try.prog 56 #[.slice a n cap] w fun e w' => ∃ x0 y0 x1 y1 : Int, e = .returned (.agg #[.int .i64 x0, .int .i64 y0, .int .i64 x1, .int .i64 y1]) ∧ Below w.heap.size w w' := by
  have CF : Hid (∀ W, Below w.heap.size w W → Calls Try.prog 72 #[.slice a n cap] W fun e w' => ∃ s, e = .returned (.pointer (some ⟨s, 0, none⟩)) ∧ Sr w' s a n cap ∧ (w.heap.size ≤ s ∧ W.heap.size ≤ s) ∧ Below W.heap.size W w') := fun W hW => (l01From_any a n cap W hn (hb.over hW)).mono (by rintro e w' ⟨rfl, h1, h2⟩; exact ⟨_, rfl, h2, ⟨hW.size, Nat.le_refl _⟩, h1⟩)
  clear hb
  obtain ⟨GR, hG⟩ : ∃ G, w.heap.size = G := ⟨_, rfl⟩
  have HG := Lib.hid hG
  go_enter Try.func56, Try.ntmps56
  go_upto_region 1 with fail
  obtain ⟨w0, hw0⟩ : ∃ w0, w0 = (w.alloc (.cells #[.int .i64 0, .int .i64 0, .int .i64 0, .int .i64 0] 52)) := ⟨_, rfl⟩
  rw [← hw0]
  have HR : Hid (Bk4 w0 GR 0 0 0 0) := by
    have h := (bk4_new w 0 0 0 0 52).below (W' := (w.alloc (.cells #[.int .i64 0, .int .i64 0, .int .i64 0, .int .i64 0] 52))) (by (repeat' (first | (with_reducible exact Below.refl _ _) | (with_reducible refine Below.alloc ?_ ?_ _) | (with_reducible refine Below.setCell ?_ ?_ _) | (with_reducible refine Below.drew ?_) | (with_reducible refine below_drewN ?_ _) | (with_reducible assumption) | (with_reducible refine below_after (by with_reducible assumption) ?_) | go_size)))
    (try simp only [World.size_alloc] at h)
    rw [hG] at h
    rw [hw0]; exact h
  have HB : Hid (Below w.heap.size w w0) := by show Below w.heap.size w w0; rw [hw0]; (repeat' (first | (with_reducible exact Below.refl _ _) | (with_reducible refine Below.alloc ?_ ?_ _) | (with_reducible refine Below.setCell ?_ ?_ _) | (with_reducible refine Below.drew ?_) | (with_reducible refine below_drewN ?_ _) | (with_reducible assumption) | (with_reducible refine below_after (by with_reducible assumption) ?_) | go_size))
  clear hw0
  have le_R : w.heap.size ≤ GR := by omega
  have zR0 := HR.out.2.2
  obtain ⟨⟨qR0, qR1, qR2, qR3⟩, ⟨fR0, fR1, fR2, fR3⟩, zR⟩ := HR.out
  go_wp2_with fail
  go_at_call 72
  refine (CF.out _ HB.out).mono ?_
  rintro e w1 ⟨sG, rfl, hs, hsl, hb⟩
  clear qR0 fR0 qR1 fR1 qR2 fR2 qR3 fR3 zR
  have HR := Lib.hid (HR.out.below hb)
  have HB := Lib.hid (below_after hb HB.out)
  clear hb
  have HSR := Lib.hid hs
  have le_s : w.heap.size ≤ sG := by have := hsl; omega
  have ne_R_s : GR ≠ sG := by omega
  clear hs
  obtain ⟨⟨qR0, qR1, qR2, qR3⟩, ⟨fR0, fR1, fR2, fR3⟩, zR⟩ := HR.out
  go_wp2_with fail
  go_at_call 110
  refine (l02Spoil_any _ a n cap _ HSR.out).mono ?_
  rintro e w2 ⟨x0, y0, x1, y1, rfl, hg, hs⟩
  clear qR0 fR0 qR1 fR1 qR2 fR2 qR3 fR3 zR
  have HR := Lib.hid (HR.out.grows hg (by intro hh; injection hh with hh; exact ne_R_s hh.symm))
  have HB := Lib.hid (Below.grown HB.out hg HB.out.size (fun k hk => by injection hk with hk; omega))
  have HSR := Lib.hid hs
  clear hg hs
  clear HSR
  have KB := (Below.setCell (Below.setCell (Below.setCell (Below.setCell HB.out (p := ⟨GR, 0, none⟩) le_R (.int .i64 x0)) (p := ⟨GR, 1, none⟩) le_R (.int .i64 y0)) (p := ⟨GR, 2, none⟩) le_R (.int .i64 x1)) (p := ⟨GR, 3, none⟩) le_R (.int .i64 y1))
  obtain ⟨⟨qR0, qR1, qR2, qR3⟩, ⟨fR0, fR1, fR2, fR3⟩, zR⟩ := HR.out
  go_wp2_with fail
  refine bodyPost_ret (v := .agg #[.int .i64 x0, .int .i64 y0, .int .i64 x1, .int .i64 y1]) (by simp (maxDischargeDepth := 8) [results, Try.results56, go_sem, *]) rfl ?_
  exact ⟨x0, y0, x1, y1, rfl, KB⟩
set_option maxHeartbeats 4000000 in
theorem DrawCornerOfTangent_any (a : Option Addr) (n cap : Nat) (w : World) (hn : n ≤ 9223372036854775807) (hb : Byt w w.heap.size a n) :
    Calls Try.prog 65 #[.slice a n cap] w fun e w' => ∃ u v : Int, e = .returned (.tuple #[.int .i64 u, .int .i64 v]) ∧ Below w.heap.size w w' := by
  have CF : Hid (∀ W, Below w.heap.size w W → Calls Try.prog 72 #[.slice a n cap] W fun e w' => ∃ s, e = .returned (.pointer (some ⟨s, 0, none⟩)) ∧ Sr w' s a n cap ∧ (w.heap.size ≤ s ∧ W.heap.size ≤ s) ∧ Below W.heap.size W w') := fun W hW => (l01From_any a n cap W hn (hb.over hW)).mono (by rintro e w' ⟨rfl, h1, h2⟩; exact ⟨_, rfl, h2, ⟨hW.size, Nat.le_refl _⟩, h1⟩)
  clear hb
  have HB : Hid (Below w.heap.size w w) := Below.refl _ _
  go_enter Try.func65, Try.ntmps65

  go_wp2_with fail
  go_at_call 72
  refine (CF.out _ HB.out).mono ?_
  rintro e w1 ⟨sG, rfl, hs, hsl, hb⟩
  have HB := Lib.hid (below_after hb HB.out)
  clear hb
  have HSR := Lib.hid hs
  have le_s : w.heap.size ≤ sG := by have := hsl; omega
  clear hs
  go_wp2_with fail
  go_at_call 87
  refine (l01Next_any _ a n cap 30 _ HSR.out).mono ?_
  rintro e w2 ⟨v0, rfl, -, hv0, hg, hs⟩
  have HB := Lib.hid (Below.grown HB.out hg HB.out.size (fun k hk => by injection hk with hk; omega))
  have HSR := Lib.hid hs
  clear hg hs
  have hv0b := hv0 (by omega)
  obtain ⟨V0, hV0⟩ : ∃ x, 1 + v0 = x := ⟨_, rfl⟩
  have hw : IntKind.i64.wrap (1 + v0) = V0 := by rw [IntKind.wrap_i64]; omega
  have hw2 : wrap64 (1 + v0) = V0 := by rw [IntWalk.wrap64_in _ ⟨by omega, by omega⟩]; exact hV0
  have hV0b : 1 ≤ V0 ∧ V0 ≤ 30 := by omega
  clear hv0 hv0b hw hw2
  go_wp2_with fail
  go_at_call 126
  refine (l01Near_any _ a n cap 1000000 _ HSR.out (by omega) (by omega)).mono ?_
  rintro e w3 ⟨v1, hv1, rfl, hg, hs⟩
  have HB := Lib.hid (Below.grown HB.out hg HB.out.size (fun k hk => by injection hk with hk; omega))
  have HSR := Lib.hid hs
  clear hg hs
  go_wp2_with fail
  go_at_call 100
  have hltS := HSR.out.lt
  refine (l01Pick_any _ w3.heap.size 2 a n cap [V0, v1] _ (sr_alloc HSR.out _) (by simp) (by omega) (by simp) (by simp) (fun j hj => ?_)).mono ?_
  · exact row_new w3 [V0, v1] _ j hj
  rintro e w4 ⟨v, hv, rfl, hg, hs⟩
  have HB := Lib.hid (Below.grown (Below.alloc HB.out HB.out.size _) hg (Below.alloc HB.out HB.out.size _).size (fun k hk => by injection hk with hk; omega))
  have HSR := Lib.hid hs
  clear hg hs hltS
  have hvb : -4611686018427387904 ≤ v ∧ v ≤ 4611686018427387904 := by simp at hv; omega
  clear hv hv1 hV0b
  obtain ⟨M, hM⟩ : ∃ x, max v 1 = x := ⟨_, rfl⟩
  have hMb : 1 ≤ M ∧ M ≤ 4611686018427387904 := by omega
  have hmx := fun P w ts t => run_maxD P w ts t v 1 M hM
  obtain ⟨M1, hM1⟩ : ∃ x, M + 1 = x := ⟨_, rfl⟩
  have hw3 : IntKind.i64.wrap (M + 1) = M1 := by rw [IntKind.wrap_i64]; omega
  have hw4 : wrap64 (M + 1) = M1 := by rw [IntWalk.wrap64_in _ ⟨by omega, by omega⟩]; exact hM1
  clear hM1
  go_wp2_with fail
  go_at_call 87
  refine (l01Next_any _ a n cap _ _ HSR.out).mono ?_
  rintro e w5 ⟨v2, rfl, -, -, hg, hs⟩
  have HB := Lib.hid (Below.grown HB.out hg HB.out.size (fun k hk => by injection hk with hk; omega))
  have HSR := Lib.hid hs
  clear hg hs
  go_wp2_with fail
  go_at_call 87
  refine (l01Next_any _ a n cap 2 _ HSR.out).mono ?_
  rintro e w6 ⟨v3, rfl, -, -, hg, hs⟩
  have HB := Lib.hid (Below.grown HB.out hg HB.out.size (fun k hk => by injection hk with hk; omega))
  have HSR := Lib.hid hs
  clear hg hs
  clear HSR
  go_wp2_with fail
  refine bodyPost_ret (v := .tuple #[.int .i64 v, .int .i64 (wrap64 (v2 + v3))]) (by simp (maxDischargeDepth := 8) [results, Try.results65, go_sem, *]) rfl ?_
  exact ⟨_, _, rfl, HB.out⟩
set_option maxHeartbeats 4000000 in
theorem DrawSumOfCorners_any (a : Option Addr) (n cap : Nat) (w : World) (hn : n ≤ 9223372036854775807) (hb : Byt w w.heap.size a n) :
    Calls Try.prog 68 #[.slice a n cap] w fun e w' => ∃ x0 y0 x1 y1 u0 v0 u1 v1 k : Int, e = .returned (.tuple #[.agg #[.int .i64 x0, .int .i64 y0, .int .i64 x1, .int .i64 y1], .agg #[.int .i64 u0, .int .i64 v0, .int .i64 u1, .int .i64 v1], .int .i64 k]) ∧ Below w.heap.size w w' := by
  have CF : Hid (∀ W, Below w.heap.size w W → Calls Try.prog 72 #[.slice a n cap] W fun e w' => ∃ s, e = .returned (.pointer (some ⟨s, 0, none⟩)) ∧ Sr w' s a n cap ∧ (w.heap.size ≤ s ∧ W.heap.size ≤ s) ∧ Below W.heap.size W w') := fun W hW => (l01From_any a n cap W hn (hb.over hW)).mono (by rintro e w' ⟨rfl, h1, h2⟩; exact ⟨_, rfl, h2, ⟨hW.size, Nat.le_refl _⟩, h1⟩)
  clear hb
  obtain ⟨GR, hG⟩ : ∃ G, w.heap.size = G := ⟨_, rfl⟩
  have HG := Lib.hid hG
  go_enter Try.func68, Try.ntmps68
  go_upto_region 1 with fail
  obtain ⟨w0, hw0⟩ : ∃ w0, w0 = ((w.alloc (.cells #[.int .i64 0, .int .i64 0, .int .i64 0, .int .i64 0] 52)).alloc (.cells #[.int .i64 0, .int .i64 0, .int .i64 0, .int .i64 0] 52)) := ⟨_, rfl⟩
  rw [← hw0]
  have HR : Hid (Bk4 w0 GR 0 0 0 0) := by
    have h := (bk4_new w 0 0 0 0 52).below (W' := ((w.alloc (.cells #[.int .i64 0, .int .i64 0, .int .i64 0, .int .i64 0] 52)).alloc (.cells #[.int .i64 0, .int .i64 0, .int .i64 0, .int .i64 0] 52))) (by (repeat' (first | (with_reducible exact Below.refl _ _) | (with_reducible refine Below.alloc ?_ ?_ _) | (with_reducible refine Below.setCell ?_ ?_ _) | (with_reducible refine Below.drew ?_) | (with_reducible refine below_drewN ?_ _) | (with_reducible assumption) | (with_reducible refine below_after (by with_reducible assumption) ?_) | go_size)))
    (try simp only [World.size_alloc] at h)
    rw [hG] at h
    rw [hw0]; exact h
  have HQ : Hid (Bk4 w0 (GR + 1) 0 0 0 0) := by
    have h := (bk4_new (w.alloc (.cells #[.int .i64 0, .int .i64 0, .int .i64 0, .int .i64 0] 52)) 0 0 0 0 52).below (W' := ((w.alloc (.cells #[.int .i64 0, .int .i64 0, .int .i64 0, .int .i64 0] 52)).alloc (.cells #[.int .i64 0, .int .i64 0, .int .i64 0, .int .i64 0] 52))) (by (repeat' (first | (with_reducible exact Below.refl _ _) | (with_reducible refine Below.alloc ?_ ?_ _) | (with_reducible refine Below.setCell ?_ ?_ _) | (with_reducible refine Below.drew ?_) | (with_reducible refine below_drewN ?_ _) | (with_reducible assumption) | (with_reducible refine below_after (by with_reducible assumption) ?_) | go_size)))
    (try simp only [World.size_alloc] at h)
    rw [hG] at h
    rw [hw0]; exact h
  have HB : Hid (Below w.heap.size w w0) := by show Below w.heap.size w w0; rw [hw0]; (repeat' (first | (with_reducible exact Below.refl _ _) | (with_reducible refine Below.alloc ?_ ?_ _) | (with_reducible refine Below.setCell ?_ ?_ _) | (with_reducible refine Below.drew ?_) | (with_reducible refine below_drewN ?_ _) | (with_reducible assumption) | (with_reducible refine below_after (by with_reducible assumption) ?_) | go_size))
  clear hw0
  obtain ⟨GQ, hGQ⟩ : ∃ g, GR + 1 = g := ⟨_, rfl⟩
  rw [hGQ] at HQ ⊢
  have le_R : w.heap.size ≤ GR := by omega
  have le_Q : w.heap.size ≤ GQ := by omega
  have ne_Q_R : GQ ≠ GR := by omega
  have ne_R_Q : GR ≠ GQ := by omega
  clear hGQ
  have zR0 := HR.out.2.2
  have zQ0 := HQ.out.2.2
  obtain ⟨⟨qR0, qR1, qR2, qR3⟩, ⟨fR0, fR1, fR2, fR3⟩, zR⟩ := HR.out
  obtain ⟨⟨qQ0, qQ1, qQ2, qQ3⟩, ⟨fQ0, fQ1, fQ2, fQ3⟩, zQ⟩ := HQ.out
  go_wp2_with fail
  go_at_call 72
  refine (CF.out _ HB.out).mono ?_
  rintro e w1 ⟨sG, rfl, hs, hsl, hb⟩
  clear qR0 fR0 qR1 fR1 qR2 fR2 qR3 fR3 zR qQ0 fQ0 qQ1 fQ1 qQ2 fQ2 qQ3 fQ3 zQ
  have HR := Lib.hid (HR.out.below hb)
  have HQ := Lib.hid (HQ.out.below hb)
  have HB := Lib.hid (below_after hb HB.out)
  clear hb
  have HSR := Lib.hid hs
  have le_s : w.heap.size ≤ sG := by have := hsl; omega
  have ne_R_s : GR ≠ sG := by omega
  have ne_Q_s : GQ ≠ sG := by omega
  clear hs
  obtain ⟨⟨qR0, qR1, qR2, qR3⟩, ⟨fR0, fR1, fR2, fR3⟩, zR⟩ := HR.out
  obtain ⟨⟨qQ0, qQ1, qQ2, qQ3⟩, ⟨fQ0, fQ1, fQ2, fQ3⟩, zQ⟩ := HQ.out
  go_wp2_with fail
  go_at_call 110
  refine (l02Spoil_any _ a n cap _ HSR.out).mono ?_
  rintro e w2 ⟨x0, y0, x1, y1, rfl, hg, hs⟩
  clear qR0 fR0 qR1 fR1 qR2 fR2 qR3 fR3 zR qQ0 fQ0 qQ1 fQ1 qQ2 fQ2 qQ3 fQ3 zQ
  have HR := Lib.hid (HR.out.grows hg (by intro hh; injection hh with hh; exact ne_R_s hh.symm))
  have HQ := Lib.hid (HQ.out.grows hg (by intro hh; injection hh with hh; exact ne_Q_s hh.symm))
  have HB := Lib.hid (Below.grown HB.out hg HB.out.size (fun k hk => by injection hk with hk; omega))
  have HSR := Lib.hid hs
  clear hg hs
  obtain ⟨⟨qR0, qR1, qR2, qR3⟩, ⟨fR0, fR1, fR2, fR3⟩, zR⟩ := HR.out
  obtain ⟨⟨qQ0, qQ1, qQ2, qQ3⟩, ⟨fQ0, fQ1, fQ2, fQ3⟩, zQ⟩ := HQ.out
  go_wp2_with fail
  go_at_call 110
  refine (l02Spoil_any _ a n cap _ HSR.out).mono ?_
  rintro e w3 ⟨u0, v0, u1, v1, rfl, hg, hs⟩
  clear qR0 fR0 qR1 fR1 qR2 fR2 qR3 fR3 zR qQ0 fQ0 qQ1 fQ1 qQ2 fQ2 qQ3 fQ3 zQ
  have HR := Lib.hid (HR.out.grows hg (by intro hh; injection hh with hh; exact ne_R_s hh.symm))
  have HQ := Lib.hid (HQ.out.grows hg (by intro hh; injection hh with hh; exact ne_Q_s hh.symm))
  have HB := Lib.hid (Below.grown HB.out hg HB.out.size (fun k hk => by injection hk with hk; omega))
  have HSR := Lib.hid hs
  clear hg hs
  obtain ⟨⟨qR0, qR1, qR2, qR3⟩, ⟨fR0, fR1, fR2, fR3⟩, zR⟩ := HR.out
  obtain ⟨⟨qQ0, qQ1, qQ2, qQ3⟩, ⟨fQ0, fQ1, fQ2, fQ3⟩, zQ⟩ := HQ.out
  go_wp2_with fail
  go_at_call 126
  refine (l01Near_any _ a n cap 1000000 _ HSR.out (by omega) (by omega)).mono ?_
  rintro e w4 ⟨h, -, rfl, hg, hs⟩
  clear qR0 fR0 qR1 fR1 qR2 fR2 qR3 fR3 zR qQ0 fQ0 qQ1 fQ1 qQ2 fQ2 qQ3 fQ3 zQ
  have HR := Lib.hid (HR.out.grows hg (by intro hh; injection hh with hh; exact ne_R_s hh.symm))
  have HQ := Lib.hid (HQ.out.grows hg (by intro hh; injection hh with hh; exact ne_Q_s hh.symm))
  have HB := Lib.hid (Below.grown HB.out hg HB.out.size (fun k hk => by injection hk with hk; omega))
  have HSR := Lib.hid hs
  clear hg hs
  obtain ⟨⟨qR0, qR1, qR2, qR3⟩, ⟨fR0, fR1, fR2, fR3⟩, zR⟩ := HR.out
  obtain ⟨⟨qQ0, qQ1, qQ2, qQ3⟩, ⟨fQ0, fQ1, fQ2, fQ3⟩, zQ⟩ := HQ.out
  go_wp2_with fail
  go_at_call 100
  have hltS := HSR.out.lt
  refine (l01Pick_any _ w4.heap.size 7 a n cap [-1, -1, 0, 1, 2, -2, h] _ (sr_alloc HSR.out _) (by simp) (by omega) (by simp) (by simp) (fun j hj => ?_)).mono ?_
  · exact row_new w4 [-1, -1, 0, 1, 2, -2, h] _ j hj
  rintro e w5 ⟨k, -, rfl, hg, hs⟩
  clear qR0 fR0 qR1 fR1 qR2 fR2 qR3 fR3 zR qQ0 fQ0 qQ1 fQ1 qQ2 fQ2 qQ3 fQ3 zQ
  have HR := Lib.hid ((HR.out.below ((Below.refl _ _).alloc (Nat.le_refl _) _)).grows hg (by intro hh; injection hh with hh; exact ne_R_s hh.symm))
  have HQ := Lib.hid ((HQ.out.below ((Below.refl _ _).alloc (Nat.le_refl _) _)).grows hg (by intro hh; injection hh with hh; exact ne_Q_s hh.symm))
  have HB := Lib.hid (Below.grown (Below.alloc HB.out HB.out.size _) hg (Below.alloc HB.out HB.out.size _).size (fun k hk => by injection hk with hk; omega))
  have HSR := Lib.hid hs
  clear hg hs hltS
  clear HSR
  have KB := (Below.setCell (Below.setCell (Below.setCell (Below.setCell (Below.setCell (Below.setCell (Below.setCell (Below.setCell HB.out (p := ⟨GR, 0, none⟩) le_R (.int .i64 x0)) (p := ⟨GR, 1, none⟩) le_R (.int .i64 y0)) (p := ⟨GR, 2, none⟩) le_R (.int .i64 x1)) (p := ⟨GR, 3, none⟩) le_R (.int .i64 y1)) (p := ⟨GQ, 0, none⟩) le_Q (.int .i64 u0)) (p := ⟨GQ, 1, none⟩) le_Q (.int .i64 v0)) (p := ⟨GQ, 2, none⟩) le_Q (.int .i64 u1)) (p := ⟨GQ, 3, none⟩) le_Q (.int .i64 v1))
  obtain ⟨⟨qR0, qR1, qR2, qR3⟩, ⟨fR0, fR1, fR2, fR3⟩, zR⟩ := HR.out
  obtain ⟨⟨qQ0, qQ1, qQ2, qQ3⟩, ⟨fQ0, fQ1, fQ2, fQ3⟩, zQ⟩ := HQ.out
  go_wp2_with fail
  refine bodyPost_ret (v := .tuple #[.agg #[.int .i64 x0, .int .i64 y0, .int .i64 x1, .int .i64 y1], .agg #[.int .i64 u0, .int .i64 v0, .int .i64 u1, .int .i64 v1], .int .i64 k]) (by simp (maxDischargeDepth := 8) [results, Try.results68, go_sem, *]) rfl ?_
  exact ⟨x0, y0, x1, y1, u0, v0, u1, v1, k, rfl, KB⟩
theorem OwnI.monoB {B B' : Nat} {w : World} {v : Value} {xs : List Int} (h : OwnI B w v xs) (hb : B' ≤ B) : OwnI B' w v xs :=
  ⟨h.1, h.2.imp id fun ⟨g, cap, cur, h1, h2, h3⟩ => ⟨g, cap, cur, h1, Nat.le_trans hb h2, h3⟩⟩
theorem OwnI.grows {B : Nat} {w w' : World} {v : Value} {xs : List Int} {s : Nat} (h : OwnI B w v xs) (hg : w.grownBy w' (some s)) (hs : s < B) : OwnI B w' v xs :=
  World.ownsRow.kept h hg (.inr (fun e => by have := (World.ownsRow.lt h _ e).1; omega))
/-- A list that grows by literals of the call's own; what else has changed. -/
theorem wpList_app_g {W : World} {ops : Array Oper} {rest : List Oper} {o : Oper} {a : Act} {Q : Exit → Act → World → Prop} (hgd : o.guard = none) (s x : Operand)
    (ho : o.op = .call { callee := .builtin .append, args := #[s, x], argTypes := #[66, 66] }) (B : Nat)
    {v : Value} {xs ys : List Int} {g c : Nat} (hown : OwnI B W v xs) (hsrc : ∀ j, j < ys.length → W.cell? ⟨g, j, none⟩ = some (.int .i64 (ys.getD j 0))) (hb : B ≤ W.heap.size) (hs : a.eval s = v) (hx : a.eval x = .slice (some ⟨g, 0, none⟩) ys.length c) (hlen : xs.length + ys.length ≤ 8388608)
    (hK : ∀ v' w', OwnI B w' v' (xs ++ ys) → W.grownBy w' v.ownBlock → wpList Try.prog ops Q rest (a.put o.dst v') w') : wpList Try.prog ops Q (o :: rest) a W := by
  obtain ⟨i0, hi, hz0, hz1, hz2⟩ := info_parts info_int
  refine wpList_append_own _ hgd s x 66 ho B 2 i0 (.int .i64 0) 1 8 Try.underlying66 hi hz0 hz1 hz2 rfl (by decide) v _ _ hs hown ⟨g, 0, none⟩ ys.length c (ys.map (Value.int .i64)) hx ?_ ?_ ?_ ?_ ?_ hb ?_
  · rw [List.length_map]; omega
  · intro j u hj
    rw [List.getElem?_map] at hj
    cases hy : ys[j]? with
    | none => rw [hy] at hj; cases hj
    | some y =>
      rw [hy] at hj
      cases hj
      have hjm := (List.getElem?_eq_some_iff.1 hy).1
      have e : (Addr.add ⟨g, 0, none⟩ j) = ⟨g, j, none⟩ := by unfold Addr.add; split <;> simp_all
      rw [e, hsrc j hjm]
      simp [List.getD, hy]
  · intro u hu; simp only [List.mem_map] at hu; obtain ⟨y, _, rfl⟩ := hu; rfl
  · unfold maxLen; omega
  · omega
  · intro v' w' h1 h2 _
    refine hK v' w' ?_ h2
    show w'.ownsRow B 2 1 v' (xs ++ ys).length ((xs ++ ys).map (Value.int .i64))
    rw [List.length_append, List.map_append]; exact h1
set_option maxHeartbeats 8000000 in
theorem DrawCornerOfExpansion_any (a : Option Addr) (n cap : Nat) (w : World) (hn : n ≤ 9223372036854775807) (hb : Byt w w.heap.size a n) :
    Calls Try.prog 62 #[.slice a n cap] w fun e w' => ∃ (v : Value) (xs : List Int), e = .returned v ∧ OwnI w.heap.size w' v xs ∧ xs.length ≤ 100 ∧ Below w.heap.size w w' := by
  have CF : Hid (∀ W, Below w.heap.size w W → Calls Try.prog 72 #[.slice a n cap] W fun e w' => ∃ s, e = .returned (.pointer (some ⟨s, 0, none⟩)) ∧ Sr w' s a n cap ∧ (w.heap.size ≤ s ∧ W.heap.size ≤ s) ∧ Below W.heap.size W w') := fun W hW => (l01From_any a n cap W hn (hb.over hW)).mono (by rintro e w' ⟨rfl, h1, h2⟩; exact ⟨_, rfl, h2, ⟨hW.size, Nat.le_refl _⟩, h1⟩)
  clear hb
  have HB : Hid (Below w.heap.size w w) := Below.refl _ _
  go_enter Try.func62, Try.ntmps62

  go_wp2_with fail
  go_at_call 72
  refine (CF.out _ HB.out).mono ?_
  rintro e w1 ⟨sG, rfl, hs, hsl, hb⟩
  have HB := Lib.hid (below_after hb HB.out)
  clear hb
  have HSR := Lib.hid hs
  have le_s : w.heap.size ≤ sG := by have := hsl; omega
  clear hs
  have hlt := HSR.out.lt
  go_upto_region 3 with fail
  obtain ⟨w2, hw2⟩ : ∃ wx, wx = w1.alloc (.cells #[] 2) := ⟨_, rfl⟩
  rw [← hw2]
  have HO : Hid (OwnI (sG + 1) w2 (.slice (some ⟨w1.heap.size, 0, none⟩) 0 0) []) := by rw [hw2]; exact World.ownsRow_made w1 #[] 0 (by omega) (Nat.zero_le _) rfl
  have HSR := Lib.hid (sr_alloc HSR.out (.cells #[] 2))
  have HB := Lib.hid (Below.alloc HB.out HB.out.size (.cells #[] 2))
  rw [← hw2] at HSR HB
  clear hw2
  obtain ⟨la, hla⟩ : ∃ la, some (⟨w1.heap.size, 0, none⟩ : Addr) = la := ⟨_, rfl⟩
  rw [hla] at HO ⊢
  clear hla hlt
  go_wp2_with fail
  go_at_call 87
  refine (l01Next_any _ a n cap 4 _ HSR.out).mono ?_
  rintro e w6 ⟨v, rfl, -, hv, hg, hs⟩
  have HO := Lib.hid (HO.out.grows hg (Nat.lt_succ_self _))
  have HB := Lib.hid (Below.grown HB.out hg HB.out.size (fun k hk => by injection hk with hk; omega))
  have HSR := Lib.hid hs
  clear hg hs
  have hvb := hv (by omega)
  clear hv
  obtain ⟨N, hN⟩ : ∃ N : Nat, (N : Int) = 2 * v + 1 := ⟨(2 * v + 1).toNat, by omega⟩
  have hw1 : IntKind.i64.wrap (2 * v) = 2 * v := by rw [IntKind.wrap_i64]; omega
  have hw2 : wrap64 (2 * v) = 2 * v := IntWalk.wrap64_in _ ⟨by omega, by omega⟩
  have hw3 : IntKind.i64.wrap (2 * v + 1) = N := by rw [IntKind.wrap_i64]; omega
  have hw4 : wrap64 (2 * v + 1) = N := by rw [IntWalk.wrap64_in _ ⟨by omega, by omega⟩]; omega
  have hNb : 1 ≤ N ∧ N ≤ 7 := by omega
  have hlS : sG < w6.heap.size := HSR.out.lt
  clear hN hvb
  go_wp2_with fail
  go_loopw [4, 5] (fun lv kv wr => ∃ (la : Option Addr) (lc m j : Nat) (xs : List Int), lv = .slice la m lc ∧ kv = .int .i64 j ∧ xs.length = m ∧ m + j = N ∧ OwnI (sG + 1) wr (.slice la m lc) xs ∧ Sr wr sG a n cap ∧ Below w.heap.size w wr) (fun _ kv _ => (intOf kv).toNat)
  case atStart => exact ⟨la, 0, 0, N, [], rfl, rfl, rfl, by omega, HO.out, HSR.out, HB.out⟩
  case round =>
    (repeat (first | clear HO | clear HSR | clear HB))
    clear hw1 hw2 hw3 hw4
    obtain ⟨la, lc, m, j, xs, rfl, rfl, hm, hmj, hO, hS, hbel⟩ := hrel
    have HO := Lib.hid hO
    have HSR := Lib.hid hS
    have HB := Lib.hid hbel
    have hlr := hS.lt
    clear hO hS hbel
    by_cases hj : 0 < j
    · skip
      have hjd : (0 : Int) < (j : Int) := by omega
      have hjd2 : decide ((0 : Int) < (j : Int)) = true := by simpa using hjd
      go_wp2_with fail
      go_at_call 87
      refine (l01Next_any _ a n cap 9 _ HSR.out).mono ?_
      rintro e w21 ⟨v1, rfl, -, hv1, hg, hs⟩
      have HO := Lib.hid (HO.out.grows hg (Nat.lt_succ_self _))
      have HB := Lib.hid (Below.grown HB.out hg HB.out.size (fun k hk => by injection hk with hk; omega))
      have HSR := Lib.hid hs
      clear hg hs
      have hv1b := hv1 (by omega)
      clear hv1
      obtain ⟨V1, hV1⟩ : ∃ x, v1 - 4 = x := ⟨_, rfl⟩
      have hw1 : IntKind.i64.wrap (v1 - 4) = V1 := by rw [IntKind.wrap_i64]; omega
      have hw2 : wrap64 (v1 - 4) = V1 := by rw [IntWalk.wrap64_in _ ⟨by omega, by omega⟩]; exact hV1
      clear hV1
      go_wp2_with fail
      go_at_call 126
      refine (l01Near_any _ a n cap 1000000 _ HSR.out (by omega) (by omega)).mono ?_
      rintro e w22 ⟨v2, -, rfl, hg, hs⟩
      have HO := Lib.hid (HO.out.grows hg (Nat.lt_succ_self _))
      have HB := Lib.hid (Below.grown HB.out hg HB.out.size (fun k hk => by injection hk with hk; omega))
      have HSR := Lib.hid hs
      clear hg hs
      go_wp2_with fail
      go_at_call 100
      have hltS := HSR.out.lt
      refine (l01Pick_any _ w22.heap.size 8 a n cap [1, 1, 2, 3, 0, -1, V1, v2] _ (sr_alloc HSR.out _) (by simp) (by omega) (by simp) (by simp) (fun j hj => ?_)).mono ?_
      · exact row_new w22 [1, 1, 2, 3, 0, -1, V1, v2] _ j hj
      rintro e w23 ⟨v3, -, rfl, hg, hs⟩
      have HO := Lib.hid ((HO.out.below ((Below.refl _ _).alloc (Nat.le_refl _) _)).grows hg (Nat.lt_succ_self _))
      have HB := Lib.hid (Below.grown (Below.alloc HB.out HB.out.size _) hg (Below.alloc HB.out HB.out.size _).size (fun k hk => by injection hk with hk; omega))
      have HSR := Lib.hid hs
      clear hg hs hltS
      clear hw1 hw2 hv1b hjd hjd2
      have hsS := HSR.out.lt
      go_wp2_with (at_builtin; refine wpList_app_g rfl _ _ rfl (sG + 1) (ys := [v3]) (HO.out.below ((Below.refl _ _).alloc (Nat.le_refl _) _)) (fun j hj => row_new _ [v3] _ j hj) (by have := HSR.out.lt; (try simp only [World.size_alloc]); omega) rfl rfl (by rw [hm]; show m + 1 ≤ 8388608; omega) ?_; intro v' w9 hO hgr; have hsr := (sr_alloc HSR.out _).kept hgr (fun k hk => by have := (World.ownsRow.lt HO.out _ hk).1; omega); have hBB := Below.grown (Below.alloc HB.out HB.out.size _) hgr (Below.alloc HB.out HB.out.size _).size (fun k hk => by have := (World.ownsRow.lt HO.out _ hk).1; omega); obtain ⟨oxs, hoxs⟩ : ∃ o, xs ++ [v3] = o := ⟨_, rfl⟩; have hol : oxs.length = m + 1 := (by rw [← hoxs]; simp [hm]); (rw [hoxs] at hO); clear hoxs hgr; have HO := Lib.hid hO; have HSR := Lib.hid hsr; have HB := Lib.hid hBB; clear hO hsr hBB; obtain ⟨la', lc', hv', _⟩ := own_view HO.out; rw [hol] at hv'; subst hv')
      obtain ⟨j', rfl⟩ : ∃ j', j = j' + 1 := ⟨j - 1, by omega⟩
      go_roundw
      case rel => exact ⟨la', lc', m + 1, j', oxs, by first | rfl | simp, by first | rfl | go_num | (simp; omega), hol, by omega, HO.out, HSR.out, HB.out⟩
      case measure => simp only [intOf]; omega
    · skip
      obtain rfl : j = 0 := by omega
      obtain rfl : m = N := by omega
      go_wp2_with fail
      go_at_call 87
      refine (l01Next_any _ a n cap 24 _ HSR.out).mono ?_
      rintro e w41 ⟨z, rfl, -, -, hg, hs⟩
      have HO := Lib.hid (HO.out.grows hg (Nat.lt_succ_self _))
      have HB := Lib.hid (Below.grown HB.out hg HB.out.size (fun k hk => by injection hk with hk; omega))
      have HSR := Lib.hid hs
      clear hg hs
      have hsS := HSR.out.lt
      by_cases hz0 : z = 0
      · skip
        subst hz0
        go_wp2_with (at_builtin; refine wpList_app_g rfl _ _ rfl (sG + 1) (ys := [1]) (HO.out.below ((Below.refl _ _).alloc (Nat.le_refl _) _)) (fun j hj => row_new _ [1] _ j hj) (by have := HSR.out.lt; (try simp only [World.size_alloc]); omega) rfl rfl (by rw [hm]; show m + 1 ≤ 8388608; omega) ?_; intro v' w9 hO hgr; have hsr := (sr_alloc HSR.out _).kept hgr (fun k hk => by have := (World.ownsRow.lt HO.out _ hk).1; omega); have hBB := Below.grown (Below.alloc HB.out HB.out.size _) hgr (Below.alloc HB.out HB.out.size _).size (fun k hk => by have := (World.ownsRow.lt HO.out _ hk).1; omega); obtain ⟨oxs, hoxs⟩ : ∃ o, xs ++ [1] = o := ⟨_, rfl⟩; have hol : oxs.length = m + 1 := (by rw [← hoxs]; simp [hm]); (rw [hoxs] at hO); clear hoxs hgr; have HO := Lib.hid hO; have HSR := Lib.hid hsr; have HB := Lib.hid hBB; clear hO hsr hBB; obtain ⟨la', lc', hv', _⟩ := own_view HO.out; rw [hol] at hv'; subst hv')
        go_ret
        exact ⟨_, oxs, rfl, HO.out.monoB (by omega), by omega, HB.out⟩
      · by_cases hz1 : z = 1
        · skip
          subst hz1
          go_wp2_with fail
          go_loopw [4] (fun lv wr => ∃ (la : Option Addr) (lc m : Nat) (xs : List Int), lv = .slice la m lc ∧ xs.length = m ∧ m ≤ 61 ∧ OwnI (sG + 1) wr (.slice la m lc) xs ∧ Sr wr sG a n cap ∧ Below w.heap.size w wr) (fun lv _ => match lv with | .slice _ k _ => 61 - k | _ => 0)
          case atStart => exact ⟨la, lc, m, xs, rfl, hm, by omega, HO.out, HSR.out, HB.out⟩
          case round =>
            (repeat (first | clear HO | clear HSR | clear HB))
            clear hm hmj
            obtain ⟨la, lc, m', xs, rfl, hm, hm61, hO, hS, hbel⟩ := hrel
            obtain ⟨m, rfl⟩ : ∃ m, m' = m := ⟨_, rfl⟩
            have HO := Lib.hid hO
            have HSR := Lib.hid hS
            have HB := Lib.hid hbel
            have hsS := hS.lt
            clear hO hS hbel
            by_cases hlt : m' < 61
            · have hd : ((m' : Int) < 61) := by omega
              go_wp2_with (at_builtin; refine wpList_app_g rfl _ _ rfl (sG + 1) (ys := [1]) (HO.out.below ((Below.refl _ _).alloc (Nat.le_refl _) _)) (fun j hj => row_new _ [1] _ j hj) (by have := HSR.out.lt; (try simp only [World.size_alloc]); omega) rfl rfl (by rw [hm]; show m' + 1 ≤ 8388608; omega) ?_; intro v' w9 hO hgr; have hsr := (sr_alloc HSR.out _).kept hgr (fun k hk => by have := (World.ownsRow.lt HO.out _ hk).1; omega); have hBB := Below.grown (Below.alloc HB.out HB.out.size _) hgr (Below.alloc HB.out HB.out.size _).size (fun k hk => by have := (World.ownsRow.lt HO.out _ hk).1; omega); obtain ⟨oxs, hoxs⟩ : ∃ o, xs ++ [1] = o := ⟨_, rfl⟩; have hol : oxs.length = m' + 1 := (by rw [← hoxs]; simp [hm]); (rw [hoxs] at hO); clear hoxs hgr; have HO := Lib.hid hO; have HSR := Lib.hid hsr; have HB := Lib.hid hBB; clear hO hsr hBB; obtain ⟨la', lc', hv', _⟩ := own_view HO.out; rw [hol] at hv'; subst hv')
              go_roundw
              case rel => exact ⟨la', lc', m' + 1, oxs, by first | rfl | simp, hol, by omega, HO.out, HSR.out, HB.out⟩
              case measure => dsimp only; omega
            · have hge : ¬ ((m' : Int) < 61) := by omega
              go_wp2
              go_ret
              first | exact ⟨_, xs, rfl, HO.out.monoB (by omega), by omega, HB.out⟩ | exact ⟨_, rfl, xs, HO.out.monoB (by omega), by omega, HB.out⟩
        · by_cases hz2 : z = 2
          · skip
            subst hz2
            go_wp2_with fail
            go_at_call 100
            have hltS := HSR.out.lt
            refine (l01Pick_any _ w41.heap.size 2 a n cap [1000001, -1000000] _ (sr_alloc HSR.out _) (by simp) (by omega) (by simp) (by simp) (fun j hj => ?_)).mono ?_
            · exact row_new w41 [1000001, -1000000] _ j hj
            rintro e w42 ⟨u, -, rfl, hg, hs⟩
            have HO := Lib.hid ((HO.out.below ((Below.refl _ _).alloc (Nat.le_refl _) _)).grows hg (Nat.lt_succ_self _))
            have HB := Lib.hid (Below.grown (Below.alloc HB.out HB.out.size _) hg (Below.alloc HB.out HB.out.size _).size (fun k hk => by injection hk with hk; omega))
            have HSR := Lib.hid hs
            clear hg hs hltS
            obtain ⟨la2, lc2, he2, hf2⟩ := own_view HO.out
            simp only [Value.slice.injEq] at he2
            obtain ⟨rfl, -, rfl⟩ := he2
            obtain ⟨g, rfl, hg1, hg2, hc, -⟩ := hf2 (by omega)
            have HOm : OwnI (sG + 1) w42 (.slice (some ⟨g, 0, none⟩) xs.length lc) xs := by rw [hm]; exact HO.out
            have hst := World.ownsRow.stored HOm 0 (.int .i64 u)
            have hfz := World.ownsRow.frozenAt HOm 0
            have hc0 := hc 0 (by omega)
            have hBB := Below.setCell HB.out (p := ⟨g, 0, none⟩) (by show w.heap.size ≤ g; omega) (.int .i64 u)
            have hOO := hst.1
            have hlm : (0 : Int) < (m : Int) := by omega
            clear hst hf2 hc
            go_wp2
            go_ret
            refine ⟨_, xs.set 0 u, rfl, OwnI.monoB (B := sG + 1) (by first | (rw [List.map_set]; simpa [hm] using hOO) | (simpa [OwnI, hm] using hOO)) (by omega), by simp; omega, hBB⟩
          · skip
            have n0 : (z == 0) = false := by simp [hz0]
            have n1 : (z == 1) = false := by simp [hz1]
            have n2 : (z == 2) = false := by simp [hz2]
            go_wp2
            go_ret
            exact ⟨_, xs, rfl, HO.out.monoB (by omega), by omega, HB.out⟩
theorem big_any (a : Option Addr) (n cap : Nat) (w : World) (hn : n ≤ 9223372036854775807) : Calls Try.prog 6 #[.slice a n cap] w fun e w' => e = .returned (.bool (decide (4096 < (n : Int)))) ∧ Below w.heap.size w w' := by
  go_enter Try.func6, Try.ntmps6
  go_wp2
  go_ret
  exact ⟨rfl, by (repeat' (first | (with_reducible exact Below.refl _ _) | (with_reducible refine Below.alloc ?_ ?_ _) | (with_reducible refine Below.setCell ?_ ?_ _) | (with_reducible refine Below.drew ?_) | (with_reducible refine below_drewN ?_ _) | (with_reducible assumption) | (with_reducible refine below_after (by with_reducible assumption) ?_) | go_size))⟩
theorem row_len {k : IntKind} {w : World} {a : Option Addr} {len cap : Nat} {zs : List Int} (h : IsRow k w a len cap zs) : len ≤ 9223372036854775807 := by
  rcases h with ⟨_, hl, _⟩ | ⟨_, _, hl, hm, _⟩
  · omega
  · unfold maxLen at hm; omega
set_option maxHeartbeats 1600000 in
theorem likeInts_same (B1 B2 : Nat) (v1 v2 : Value) (n : Nat) (zs : List Int) (w : World) (h1 : OwnI B1 w v1 zs) (h2 : OwnI B2 w v2 zs) (hz : zs.length = n) (hx : n ≤ 140737488351232) :
    Calls Try.prog 59 #[v1, v2] w fun e w' => e = .returned (.bool true) ∧ Below w.heap.size w w' := by
  obtain ⟨a1, c1, rfl, f1⟩ := own_view h1
  obtain ⟨a2, c2, rfl, f2⟩ := own_view h2
  rw [hz] at f1 f2 ⊢
  clear h1 h2
  by_cases hz : n = 0
  · subst hz
    clear f1 f2
    go_enter Try.func59, Try.ntmps59
    go_wp2
    refine wp_loop_rounds 1 ?_
    rw [rounds_succ]
    go_wp2
    go_ret
    exact ⟨rfl, by (repeat' (first | (with_reducible exact Below.refl _ _) | (with_reducible refine Below.alloc ?_ ?_ _) | (with_reducible refine Below.setCell ?_ ?_ _) | (with_reducible refine Below.drew ?_) | (with_reducible refine below_drewN ?_ _) | (with_reducible assumption) | (with_reducible refine below_after (by with_reducible assumption) ?_) | go_size))⟩
  · obtain ⟨g1, rfl, _, hg1, hc1, _⟩ := f1 (by omega)
    obtain ⟨g2, rfl, _, hg2, hc2, _⟩ := f2 (by omega)
    have HC1 := Lib.hid hc1
    have HC2 := Lib.hid hc2
    clear f1 f2 hc1 hc2 hz
    go_enter Try.func59, Try.ntmps59
    go_wp2
    go_loopw [5] (fun i wr => ∃ k : Nat, k ≤ n ∧ i = .int .i64 k ∧ Below w.heap.size w wr) (fun i _ => n - (intOf i).toNat)
    case atStart => exact ⟨0, by omega, by go_num, Below.refl _ _⟩
    case round =>
      obtain ⟨k, hk, rfl, hbel⟩ := hrel
      by_cases hlt : k < n
      · have e1 := (hbel.cell (p := ⟨g1, k, none⟩) hg1).trans (HC1.out k hlt)
        have e2 := (hbel.cell (p := ⟨g2, k, none⟩) hg2).trans (HC2.out k hlt)
        obtain ⟨x, hx0⟩ : ∃ x, zs.getD k 0 = x := ⟨_, rfl⟩
        rw [hx0] at e1 e2
        clear hx0
        have i0 : (0 : Int) ≤ (k : Int) := by omega
        have i1 : (k : Int) < (n : Int) := by omega
        go_wp2
        go_quiet (fail)
        go_wp2
        go_roundw
        case rel => exact ⟨k + 1, by omega, by go_num, by (repeat' (first | (with_reducible exact Below.refl _ _) | (with_reducible refine Below.alloc ?_ ?_ _) | (with_reducible refine Below.setCell ?_ ?_ _) | (with_reducible refine Below.drew ?_) | (with_reducible refine below_drewN ?_ _) | (with_reducible assumption) | (with_reducible refine below_after (by with_reducible assumption) ?_) | go_size))⟩
        case measure => simp [intOf]; omega
      · have hge : ¬ (k : Int) < (n : Int) := by omega
        go_wp2
        go_ret
        exact ⟨rfl, by (repeat' (first | (with_reducible exact Below.refl _ _) | (with_reducible refine Below.alloc ?_ ?_ _) | (with_reducible refine Below.setCell ?_ ?_ _) | (with_reducible refine Below.drew ?_) | (with_reducible refine below_drewN ?_ _) | (with_reducible assumption) | (with_reducible refine below_after (by with_reducible assumption) ?_) | go_size))⟩
theorem isCr_mk {a b c d : Int} (k0 : isPt (a, b) = true) (k1 : isPt (c, d) = true) (g0 : gcdI a b = 1) (g1 : gcdI c d = 1) (hd : detP (a, b) (c, d) ≠ 0) : isCr a b c d = true := by
  simp only [isCr, isPr, Bool.and_eq_true, beq_iff_eq, bne_iff_ne]
  exact ⟨⟨⟨k0, g0⟩, k1, g1⟩, hd⟩
theorem gcd_emod (p q : Int) : gcdI q (p % q) = gcdI p q := by
  unfold gcdI
  rw [Int.gcd_comm p q]
  congr 1
  rw [Int.emod_def, Int.gcd_comm q, Int.gcd_comm q p]
  have : Int.gcd (p - q * (p / q)) q = Int.gcd p q := by
    rw [show p - q * (p / q) = p + q * (-(p / q)) by grind]
    simp
  exact this
theorem ff_expN : ∀ (n : Nat) (p q : Int), q.toNat ≤ n → 1 ≤ q → gcdI p q = 1 → ff (expI p q) = (p, q) := by
  intro n
  induction n with
  | zero => intro p q h1 h2 _; omega
  | succ n ih =>
    intro p q hn h1 hg
    rw [expI_step p q h1]
    have a1 := Int.emod_nonneg p (by omega : q ≠ 0)
    have a2 := Int.emod_lt_of_pos p (by omega : 0 < q)
    have hd := Int.mul_ediv_add_emod p q
    by_cases hz : p % q = 0
    · rw [hz, expI_zero]
      have hq : q = 1 := by
        have := gcd_emod p q
        rw [hz, hg] at this
        unfold gcdI at this
        simp at this
        omega
      subst hq
      show (p / 1 * 1 + 0, (1 : Int)) = (p, 1)
      simp
    · show (p / q * (ff (expI q (p % q))).1 + (ff (expI q (p % q))).2, (ff (expI q (p % q))).1) = (p, q)
      rw [ih q (p % q) (by omega) (by omega) (by rw [gcd_emod]; exact hg)]
      dsimp only
      rw [Int.mul_comm]
      rw [hd]
theorem ff_expI {p q : Int} (h1 : 1 ≤ q) (hg : gcdI p q = 1) : ff (expI p q) = (p, q) := ff_expN _ p q (Nat.le_refl _) h1 hg
theorem okF_expN : ∀ (n : Nat) (p q : Int), q.toNat ≤ n → 1 ≤ q → gcdI p q = 1 → isPt (p, q) = true → okF (expI p q) = true := by
  intro n
  induction n with
  | zero => intro p q h1 h2 _; omega
  | succ n ih =>
    intro p q hn h1 hg hp
    have hf := ff_expI h1 hg
    rw [expI_step p q h1] at hf ⊢
    have a1 := Int.emod_nonneg p (by omega : q ≠ 0)
    have a2 := Int.emod_lt_of_pos p (by omega : 0 < q)
    unfold okF
    rw [hf, hp, Bool.and_true]
    by_cases hz : p % q = 0
    · rw [hz, expI_zero]; rfl
    · have b2 := isPt_c2 hp
      exact ih q (p % q) (by omega) (by omega) (by rw [gcd_emod]; exact hg) (by unfold isPt; rw [Bool.and_eq_true]; exact ⟨crd_iff.2 b2, crd_iff.2 (by dsimp only at b2 ⊢; omega)⟩)
theorem ff_split : ∀ (l : List Int) (x : Int), ff (l ++ [x - 1, 1]) = ff (l ++ [x])
  | [], x => by
    show ((x - 1) * (1 * 1 + 0) + 1, (1 * 1 + 0 : Int)) = (x * 1 + 0, 1)
    simp
  | y :: l, x => by
    have ih := ff_split l x
    show (y * (ff (l ++ [x - 1, 1])).1 + (ff (l ++ [x - 1, 1])).2, (ff (l ++ [x - 1, 1])).1) = (y * (ff (l ++ [x])).1 + (ff (l ++ [x])).2, (ff (l ++ [x])).1)
    rw [ih]
theorem okF_split : ∀ (l : List Int) (x : Int), okF (l ++ [x]) = true → okF (l ++ [x - 1, 1]) = true
  | [], x, h => by
    show (okF [1] && isPt (ff ([] ++ [x - 1, 1]))) = true
    rw [ff_split [] x]
    have h : (okF [] && isPt (ff ([] ++ [x]))) = true := h
    have h2 : isPt (ff ([] ++ [x])) = true := by simpa [okF] using h
    rw [h2]
    decide
  | y :: l, x, h => by
    have h : (okF (l ++ [x]) && isPt (ff (y :: (l ++ [x])))) = true := h
    simp only [Bool.and_eq_true] at h
    show (okF (l ++ [x - 1, 1]) && isPt (ff ((y :: l) ++ [x - 1, 1]))) = true
    rw [ff_split (y :: l) x, okF_split l x h.1]
    exact h.2
theorem last_split {xs : List Int} (h : 1 ≤ xs.length) : xs = xs.dropLast ++ [xs.getD (xs.length - 1) 0] := by
  have hne : xs ≠ [] := by intro e; rw [e] at h; simp at h
  have := (List.dropLast_concat_getLast hne).symm
  rw [List.getLast_eq_getElem] at this
  rw [show xs.getD (xs.length - 1) 0 = xs[xs.length - 1]'(by omega) by simp [List.getD, show xs.length - 1 < xs.length by omega]]
  exact this
theorem ff_lng {xs : List Int} (h : 1 ≤ xs.length) : ff (lng xs) = ff xs := by
  unfold lng
  split
  · rfl
  · rw [ff_split, ← last_split h]
theorem okF_lng {xs : List Int} (h : 1 ≤ xs.length) (k : okF xs = true) : okF (lng xs) = true := by
  unfold lng
  split
  · exact k
  · exact okF_split _ _ (by rw [← last_split h]; exact k)
theorem lng_odd {xs : List Int} (h : 1 ≤ xs.length) : (lng xs).length % 2 = 1 := by
  unfold lng
  split
  · assumption
  · simp only [List.length_append, List.length_dropLast, List.length_cons, List.length_nil]; omega
theorem lng_le {xs : List Int} (h : 1 ≤ xs.length) : (lng xs).length ≤ xs.length + 1 := by
  unfold lng
  split
  · omega
  · simp only [List.length_append, List.length_dropLast, List.length_cons, List.length_nil]; omega
/-- Expansions are short: two steps halve the denominator. -/
theorem expI_short : ∀ (k : Nat) (p q : Int), 0 ≤ q → q < 2 ^ k → (expI p q).length ≤ 2 * k
  | 0, p, q, h0, h => by
    have : q = 0 := by simp at h; omega
    rw [this, expI_zero]; simp
  | k + 1, p, q, h0, h => by
    have hp : (2 : Int) ^ (k + 1) = 2 ^ k * 2 := Int.pow_succ ..
    rw [hp] at h
    by_cases hq : q = 0
    · rw [hq, expI_zero]; simp
    · rw [expI_step p q (by omega)]
      have a1 := Int.emod_nonneg p hq
      have a2 := Int.emod_lt_of_pos p (by omega : 0 < q)
      obtain ⟨r, hr⟩ : ∃ r, p % q = r := ⟨_, rfl⟩
      rw [hr] at a1 a2 ⊢
      by_cases hz : r = 0
      · rw [hz, expI_zero]; simp only [List.length_cons, List.length_nil]; omega
      · rw [expI_step q r (by omega)]
        have b1 := Int.emod_nonneg q hz
        have b2 := Int.emod_lt_of_pos q (by omega : 0 < r)
        have b3 := Int.mul_ediv_add_emod q r
        have b4 : 1 ≤ q / r := by
          have := Int.ediv_pos_of_pos_of_dvd (a := r) (b := 1) (by omega) (by omega) (Int.one_dvd _)
          have : r / r ≤ q / r := Int.ediv_le_ediv (by omega) (by omega)
          rw [Int.ediv_self hz] at this
          exact this
        have b5 : r * 1 ≤ r * (q / r) := Int.mul_le_mul_of_nonneg_left b4 (by omega)
        have ih := expI_short k r (q % r) b1 (by omega)
        simp only [List.length_cons]
        omega
theorem cos_gcd {a b c d : Int} (h : isCr a b c d = true) : gcdI (sinI a b c d) (cosI a b c d) = 1 := by
  obtain ⟨k0, k1, g0, g1, hd⟩ := isCr_parts h
  obtain ⟨m1, _⟩ := mateI_ok k0 g0
  have hs := (sin_pos h).1
  -- the cosine modulo the sine
  have e : ∃ t, cosI a b c d = cosD a b c d + sinI a b c d * t := by
    refine ⟨-((cosD a b c d - 1) / sinI a b c d), ?_⟩
    have := Int.mul_ediv_add_emod (cosD a b c d - 1) (sinI a b c d)
    unfold cosI
    grind
  obtain ⟨t, ht⟩ := e
  have d1 : gcdI (sinI a b c d) (cosI a b c d) ∣ sinI a b c d := by unfold gcdI; exact Int.gcd_dvd_left ..
  have d2 : gcdI (sinI a b c d) (cosI a b c d) ∣ cosI a b c d := by unfold gcdI; exact Int.gcd_dvd_right ..
  have hgn : 0 ≤ gcdI (sinI a b c d) (cosI a b c d) := by unfold gcdI; omega
  generalize gcdI (sinI a b c d) (cosI a b c d) = g at *
  have d3 : g ∣ cosD a b c d := by
    have : cosD a b c d = cosI a b c d - sinI a b c d * t := by omega
    rw [this]
    exact Int.dvd_sub d2 (Int.dvd_trans d1 (Int.dvd_mul_right _ _))
  have d4 : g ∣ a * d - b * c := by
    have e2 : detP (a, b) (c, d) = a * d - b * c := rfl
    rw [← e2]
    unfold sinI absI at d1
    exact Int.dvd_natAbs.1 d1
  have e3 : cosD a b c d = c * (mateI a b).2 - d * (mateI a b).1 := rfl
  rw [e3] at d3
  clear ht d2 d1 e3
  generalize (mateI a b).1 = P at *
  generalize (mateI a b).2 = Q at *
  have c1 : g ∣ c := by
    have e : c = a * (c * Q - d * P) + P * (a * d - b * c) := by grind
    rw [e]
    exact Int.dvd_add (Int.dvd_trans d3 (Int.dvd_mul_left a _)) (Int.dvd_trans d4 (Int.dvd_mul_left P _))
  have c2 : g ∣ d := by
    have e : d = b * (c * Q - d * P) + Q * (a * d - b * c) := by grind
    rw [e]
    exact Int.dvd_add (Int.dvd_trans d3 (Int.dvd_mul_left b _)) (Int.dvd_trans d4 (Int.dvd_mul_left Q _))
  have c3 : g ∣ gcdI c d := by unfold gcdI; exact Int.dvd_coe_gcd c1 c2
  rw [g1] at c3
  exact Int.eq_one_of_dvd_one hgn c3
theorem mate_one : mateI 1 0 = (0, 1) := by decide +kernel
theorem cos_tan {c s : Int} (h1 : 1 ≤ c) (h2 : c ≤ s) : cosI 1 0 c s = c ∧ sinI 1 0 c s = s := by
  have e : sinI 1 0 c s = s := by
    unfold sinI detP absI
    dsimp only
    omega
  refine ⟨?_, e⟩
  unfold cosI cosD
  rw [e, mate_one]
  unfold detP
  dsimp only
  rw [show c * 1 - s * 0 - 1 = c - 1 by omega, Int.emod_eq_of_lt (by omega) (by omega)]
  omega
theorem cr_tan {c s : Int} (h1 : 1 ≤ c) (h2 : c ≤ s) (h3 : s ≤ 1000000) (g : gcdI s c = 1) : crC 1 0 c s = 0 := by
  have q : isPt (c, s) = true := by unfold isPt; rw [Bool.and_eq_true]; exact ⟨crd_iff.2 (by dsimp only; omega), crd_iff.2 (by dsimp only; omega)⟩
  have g' : gcdI c s = 1 := by unfold gcdI at *; rw [Int.gcd_comm]; exact g
  have k : isCr 1 0 c s = true := by
    refine isCr_mk (by decide) q (by decide +kernel) g' ?_
    unfold detP
    dsimp only
    omega
  exact crC_yes k (fitC_iff.2 (by rw [(cos_tan h1 h2).2]; exact h3))
/-- A corner comes back from its long expansion. -/
theorem long_back {a b c d : Int} (h : crC a b c d = 0) :
    (lnC a b c d).length % 2 = 1 ∧ (lnC a b c d).length ≤ 60 ∧ coeV (lnC a b c d) = .tuple #[.agg #[.int .i64 1, .int .i64 0, .int .i64 (cosI a b c d), .int .i64 (sinI a b c d)], .int .i64 0] := by
  obtain ⟨k, f⟩ : isCr a b c d = true ∧ fitC a b c d = true := by
    unfold crC at h
    split at h
    · rename_i h1
      split at h
      · rename_i h2; exact ⟨h1, h2⟩
      · exact absurd h (by decide)
    · exact absurd h (by decide)
  have hl := lnC_yes k f
  have hs := sin_pos k
  have hc := cos_bd k
  have hf := fitC_iff.1 f
  have hg := cos_gcd k
  have hel := fun i => lnC_el k f i
  rw [hl] at hel ⊢
  generalize sinI a b c d = s at *
  generalize cosI a b c d = u at *
  have hp : isPt (s, u) = true := by unfold isPt; rw [Bool.and_eq_true]; exact ⟨crd_iff.2 (by dsimp only; omega), crd_iff.2 (by dsimp only; omega)⟩
  have hne := expI_ne (p := s) (q := u) (by omega)
  have h1 := lng_odd hne
  have h2 := lng_le hne
  have h3 := expI_short 20 s u (by omega) (by omega)
  have h4 : ff (lng (expI s u)) = (s, u) := by rw [ff_lng hne, ff_expI (by omega) hg]
  have h5 := okF_lng hne (okF_expN _ s u (Nat.le_refl _) (by omega) hg hp)
  generalize lng (expI s u) = L at *
  have h6 : allC L L.length = true := by
    have : ∀ n, allC L n = true := by
      intro n
      cases hh : allC L n
      · exfalso
        clear h1 h2 h5
        induction n with
        | zero => cases hh
        | succ n ih =>
          unfold allC at hh
          cases h8 : allC L n
          · exact ih h8
          · have := hel n
            simp only [Bool.and_eq_false_iff] at hh
            have e : L.getD n 0 = L[n]?.getD 0 := by simp [List.getD_eq_getElem?_getD]
            rw [e, this, h8] at hh
            simp at hh
      · rfl
    exact this _
  refine ⟨h1, by omega, ?_⟩
  rw [coeV_yes (by unfold coeB; rw [h6, decide_eq_true h1, decide_eq_true (show L.length ≤ 60 by omega)]; rfl)]
  unfold colV
  rw [colC_yes h5 (by rw [h4]; dsimp only; omega), h4, oni_0, oni_0, oni_0]
theorem coeV_form (xs : List Int) : ∃ e0 e1 e2 e3 c : Int, coeV xs = .tuple #[.agg #[.int .i64 e0, .int .i64 e1, .int .i64 e2, .int .i64 e3], .int .i64 c] := by
  cases h : coeB xs
  · exact ⟨_, _, _, _, _, coeV_no h⟩
  · rw [coeV_yes h]
    exact ⟨_, _, _, _, _, rfl⟩
theorem norm_norm {a b c d : Int} (h : isCr a b c d = true) (f : fitC a b c d = true) :
    crC 1 0 (cosI a b c d) (sinI a b c d) = 0 ∧ cosI 1 0 (cosI a b c d) (sinI a b c d) = cosI a b c d ∧ sinI 1 0 (cosI a b c d) (sinI a b c d) = sinI a b c d := by
  have b1 := cos_bd h
  have g := cos_gcd h
  have e := cos_tan b1.1 b1.2
  exact ⟨cr_tan b1.1 b1.2 (fitC_iff.1 f) g, e.1, e.2⟩
theorem smC_ok {a b c d e f g h n : Int} (k : smC a b c d e f g h n = 0) : okF (smL a b c d e f g h n) = true ∧ ¬ (ff (smL a b c d e f g h n)).1 = 0 := by
  cases h1 : isCr a b c d
  · rw [smC_1a h1] at k; exact absurd k (by decide)
  cases h2 : isCr e f g h
  · rw [smC_1b h2] at k; exact absurd k (by decide)
  cases h3 : crd n
  · rw [smC_2 h1 h2 h3] at k; exact absurd k (by decide)
  cases h4 : fitC a b c d
  · rw [smC_3a h1 h2 h3 h4] at k; exact absurd k (by decide)
  cases h5 : fitC e f g h
  · rw [smC_3b h1 h2 h3 h5] at k; exact absurd k (by decide)
  rw [smC_b h1 h2 h3 h4 h5] at k
  unfold smB at k
  split at k
  · exact absurd k (by decide)
  · unfold colC at k
    split at k
    · rename_i h6
      split at k
      · exact absurd k (by decide)
      · rename_i h7; exact ⟨h6, h7⟩
    · exact absurd k (by decide)
/-- The sum is normal. -/
theorem sum_norm {a b c d e f g h n : Int} (k : smC a b c d e f g h n = 0) :
    crC 1 0 (smX a b c d e f g h n) (smY a b c d e f g h n) = 0 ∧ cosI 1 0 (smX a b c d e f g h n) (smY a b c d e f g h n) = smX a b c d e f g h n ∧ sinI 1 0 (smX a b c d e f g h n) (smY a b c d e f g h n) = smY a b c d e f g h n := by
  obtain ⟨h1, h2⟩ := smC_ok k
  exact norm_norm (isCr_ff h1 h2) (fitC_ff h1)
theorem tanC_ok {s c : Int} (h : tanC s c = 0) : crC 1 0 c s = 0 ∧ cosI 1 0 c s = c ∧ sinI 1 0 c s = s := by
  unfold tanC at h
  split at h
  · rename_i k
    obtain ⟨h1, h2, h3, h4, h5⟩ := k
    have e := cos_tan h3 h4
    exact ⟨cr_tan h3 h4 h2 h5, e.1, e.2⟩
  · exact absurd h (by decide)
theorem lnC_err {a b c d : Int} (h : ¬ crC a b c d = 0) : lnC a b c d = [] := by unfold lnC; rw [if_neg h]
theorem eq_cr (a b c d e f g h : Int) (w : World) : (Op.equalIn 10000 52 (.agg #[.int .i64 a, .int .i64 b, .int .i64 c, .int .i64 d]) (.agg #[.int .i64 e, .int .i64 f, .int .i64 g, .int .i64 h])).run Try.prog w = .ok ((a == e && b == f) && (c == g && d == h)) w := by
  have p0 : ∀ (a b c d : Value) (w : World), (part 30 #[a, b, c, d] 0).run Try.prog w = .ok (.agg #[a, b]) w := fun _ _ _ _ _ => by kernel_rfl
  have p1 : ∀ (a b c d : Value) (w : World), (part 30 #[a, b, c, d] 2).run Try.prog w = .ok (.agg #[c, d]) w := fun _ _ _ _ _ => by kernel_rfl
  rw [show 10000 = 9999 + 1 from rfl, run_equalIn_struct w 9999 52 _ _ (by kernel_rfl) (by kernel_rfl)]
  have hf : (Try.prog.fieldsOf 52).toList.map (fun f => (f.name, f.type, f.offset)) = [("First", 30, 0), ("Second", 30, 2)] := by kernel_rfl
  generalize (Try.prog.fieldsOf 52).toList = L at hf ⊢
  obtain ⟨f0, f1, rfl⟩ : ∃ f0 f1, L = [f0, f1] := by
    match L, hf with
    | [f0, f1], _ => exact ⟨f0, f1, rfl⟩
    | [], h => simp at h
    | [_], h => simp at h
    | _ :: _ :: _ :: _, h => simp at h
  simp only [List.map_cons, List.map_nil, List.cons.injEq, Prod.mk.injEq, and_true] at hf
  obtain ⟨⟨n0, t0, o0⟩, n1, t1, o1⟩ := hf
  have q0 := fun w => eq_arr2 9997 a b e f w
  have q1 := fun w => eq_arr2 9997 c d g h w
  cases h0 : (a == e && b == f)
  · simp [go_sem, Op.eqFields, n0, n1, t0, t1, o0, o1, Sem.run_bind, p0, p1, q0, q1, h0]
  · cases h1 : (c == g && d == h)
    · simp only [Op.eqFields, n0, n1, t0, t1, o0, o1]
      simp [go_sem, Sem.run_bind, p0, p1, q0, q1, h0, h1, Result.andThen]
      try (simp only [Bool.and_eq_false_iff, beq_eq_false_iff_ne] at h1; try omega)
    · simp only [Op.eqFields, n0, n1, t0, t1, o0, o1]
      simp [go_sem, Sem.run_bind, p0, p1, q0, q1, h0, h1, Result.andThen]
      try (simp only [Bool.and_eq_true, beq_iff_eq] at h1; try (intro _ h; omega))
end Go.Proofs.Ytoenlpkphekbnaa
