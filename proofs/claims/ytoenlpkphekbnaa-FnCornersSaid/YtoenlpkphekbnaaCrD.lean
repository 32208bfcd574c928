/-
  Corners, drawn: primitive points within bounds, and the model's l02Draw (own work).
-/
import Derived.Test.YtoenlpkphekbnaaDrw3
import Derived.Test.YtoenlpkphekbnaaCor
namespace Go.Proofs.Ytoenlpkphekbnaa
open Go.ChangeShapes Go.WideShapes Go.ChangeAt Go.RowKit
set_option linter.unusedVariables false
set_option maxRecDepth 100000
set_option linter.unusedSimpArgs false
set_option maxRecDepth 100000

theorem primP_bd {x y m : Int} (hm : m ≤ 1000000) (b1 : -m ≤ x) (b2 : x ≤ m) (b3 : -m ≤ y) (b4 : y ≤ m) (hne : (x == 0 && y == 0) = false) :
    (-1000000 ≤ (primP (x, y)).1 ∧ (primP (x, y)).1 ≤ 1000000) ∧ (-1000000 ≤ (primP (x, y)).2 ∧ (primP (x, y)).2 ≤ 1000000) ∧ ¬ ((primP (x, y)).1 = 0 ∧ (primP (x, y)).2 = 0) := by
  have d1 : gcdI x y ∣ x := by unfold gcdI; exact Int.gcd_dvd_left ..
  have d2 : gcdI x y ∣ y := by unfold gcdI; exact Int.gcd_dvd_right ..
  have e1 := Int.mul_tdiv_cancel' d1
  have e2 := Int.mul_tdiv_cancel' d2
  have k1 := tdiv_bd (a := x) (b := gcdI x y) 1000000 (by omega) (by omega)
  have k2 := tdiv_bd (a := y) (b := gcdI x y) 1000000 (by omega) (by omega)
  unfold primP
  dsimp only
  rw [show IntKind.i64.wrap (x.tdiv (gcdI x y)) = x.tdiv (gcdI x y) by rw [IntKind.wrap_i64]; omega, show IntKind.i64.wrap (y.tdiv (gcdI x y)) = y.tdiv (gcdI x y) by rw [IntKind.wrap_i64]; omega]
  refine ⟨k1, k2, fun ⟨z1, z2⟩ => ?_⟩
  rw [z1, Int.mul_zero] at e1
  rw [z2, Int.mul_zero] at e2
  subst e1
  subst e2
  simp at hne
theorem l01DrawPrimitive_bd (s : Nat) (a : Option Addr) (n cap : Nat) (m : Int) (w : World) (h : Sr w s a n cap) (hm : 1 ≤ m) (hm2 : m ≤ 1000000) :
    Calls Try.prog 89 #[.pointer (some ⟨s, 0, none⟩), .int .i64 m] w fun e w' => ∃ x y : Int, e = .returned (.agg #[.int .i64 x, .int .i64 y]) ∧ ((-1000000 ≤ x ∧ x ≤ 1000000) ∧ (-1000000 ≤ y ∧ y ≤ 1000000) ∧ ¬ (x = 0 ∧ y = 0)) ∧ Drew s a n cap w w' := by
  have heq := eq_pt
  have HS := Lib.hid h
  have hsl := h.lt
  clear h
  go_enter Try.func89, Try.ntmps89
  go_wp2_with fail
  go_at_call 108
  refine (l01DrawPoint_any s a n cap m _ (sr_alloc HS.out _) hm hm2).mono ?_
  rintro e w1 ⟨x, y, rfl, b1, b2, b3, b4, hg1, hs1⟩
  have HK := Lib.hid (isPt_of hm2 b1 b2 b3 b4)
  have HP := Lib.hid (fun hne => primP_bd hm2 b1 b2 b3 b4 hne)
  have T1 := Lib.hid ((two_new w (.int .i64 0) (.int .i64 0) 30).kept hg1 (fun e => by cases e; omega))
  have G1 := Lib.hid ((World.grownBy_alloc w _ _).trans hg1)
  have hsl1 := hs1.lt
  obtain ⟨c0, c1, f0, f1, hb⟩ := T1.out
  clear hg1 b1 b2 b3 b4
  cases hz : (x == 0 && y == 0)
  · have HZ := Lib.hid hz
    go_wp2_with fail
    go_at_call 99
    refine (l01Part_any x y _ HK.out HZ.out).mono ?_
    rintro e w2 ⟨rfl, hb2⟩
    have G2 := Lib.hid (grown_below (grown_new (World.grownBy.refl w1 none) _) hb2)
    clear c0 c1 f0 f1 hb hb2
    obtain ⟨c0, c1, f0, f1, hb⟩ := T1.out.kept G2.out (by simp)
    have hs2 := Lib.hid (hs1.kept G2.out (fun k e => by cases e))
    clear hs1
    go_wp2
    refine bodyPost_ret (v := .agg #[.int .i64 (primP (x, y)).1, .int .i64 (primP (x, y)).2]) (by simp (maxDischargeDepth := 8) [results, Try.results89, go_sem, *]) rfl ?_
    exact ⟨_, _, rfl, HP.out HZ.out, grown_setN (grown_setN (G1.out.trans (grown_weaken G2.out _)) (Nat.le_refl _) _ _) (Nat.le_refl _) _ _, sr_set (sr_set hs2.out _ _ _ hsl) _ _ _ hsl⟩
  · have HS1 := Lib.hid hs1
    clear hs1
    go_wp2
    refine bodyPost_ret (v := .agg #[.int .i64 1, .int .i64 0]) (by simp (maxDischargeDepth := 8) [results, Try.results89, go_sem, *]) rfl ?_
    exact ⟨1, 0, rfl, by omega, by repeat' (first | exact G1.out | (refine grown_setN ?_ (by first | exact Nat.le_refl _ | omega) _ _) | (refine grown_new ?_ _)), by repeat' (first | exact HS1.out | (refine sr_set ?_ _ _ _ (by omega)) | (refine sr_alloc ?_ _))⟩
theorem sq_pos {x y : Int} (h : ¬ (x = 0 ∧ y = 0)) : detP (x, y) (-y, x) ≠ 0 := by
  unfold detP
  dsimp only
  intro e
  have h1 : 0 ≤ x * x := by rcases Int.le_total 0 x with h | h; exact Int.mul_nonneg h h; exact Int.mul_nonneg_of_nonpos_of_nonpos h h
  have h2 : 0 ≤ y * y := by rcases Int.le_total 0 y with h | h; exact Int.mul_nonneg h h; exact Int.mul_nonneg_of_nonpos_of_nonpos h h
  have h3 : y * -y = -(y * y) := Int.mul_neg ..
  have z1 : x * x = 0 := by omega
  have z2 : y * y = 0 := by omega
  exact h ⟨by rcases Int.mul_eq_zero.1 z1 with h | h <;> exact h, by rcases Int.mul_eq_zero.1 z2 with h | h <;> exact h⟩
def ivOf : Option Value → Int
  | some (.int _ n) => n
  | _ => 0
theorem Four.ivs {w : World} {b : Nat} {x y u v : Int} (h : Four w b (.int .i64 x) (.int .i64 y) (.int .i64 u) (.int .i64 v)) : ivOf (w.cell? ⟨b, 2, none⟩) = u ∧ ivOf (w.cell? ⟨b, 3, none⟩) = v := ⟨by rw [h.2.2.1]; rfl, by rw [h.2.2.2.1]; rfl⟩
end Go.Proofs.Ytoenlpkphekbnaa
