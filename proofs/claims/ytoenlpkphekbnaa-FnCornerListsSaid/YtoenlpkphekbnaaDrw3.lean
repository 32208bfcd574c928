/-
  Primitive points and unimodular matrices, drawn (own work).
-/
import Derived.Test.YtoenlpkphekbnaaDrw2
import Derived.Test.YtoenlpkphekbnaaMul
import Derived.Test.YtoenlpkphekbnaaAlg4
import Derived.Test.YtoenlpkphekbnaaEq
namespace Go.Proofs.Ytoenlpkphekbnaa
open Go.ChangeShapes Go.WideShapes Go.ChangeAt Go.RowKit
set_option linter.unusedVariables false
set_option maxRecDepth 100000
set_option linter.unusedSimpArgs false
set_option maxRecDepth 100000

theorem grown_below {a w w' : World} {row : Option Nat} (h : a.grownBy w row) (hb : Below w.heap.size w w') : a.grownBy w' row :=
  h.trans ⟨hb.os, hb.tape, hb.output, hb.size, fun i hi _ => hb.block i hi⟩
theorem grown_weaken {a w : World} (h : a.grownBy w none) (row : Option Nat) : a.grownBy w row := ⟨h.os, h.tape, h.output, h.size, fun k hk _ => h.block k hk (by simp)⟩
theorem isPt_of {x y m : Int} (hm : m ≤ 1000000) (h1 : -m ≤ x) (h2 : x ≤ m) (h3 : -m ≤ y) (h4 : y ≤ m) : isPt (x, y) = true := by
  simp [isPt, crd]
  omega
theorem l01DrawPrimitive_any (s : Nat) (a : Option Addr) (n cap : Nat) (m : Int) (w : World) (h : Sr w s a n cap) (hm : 1 ≤ m) (hm2 : m ≤ 1000000) :
    Calls Try.prog 89 #[.pointer (some ⟨s, 0, none⟩), .int .i64 m] w fun e w' => ∃ x y : Int, e = .returned (.agg #[.int .i64 x, .int .i64 y]) ∧ Drew s a n cap w w' := by
  have heq := eq_pt
  have HS := Lib.hid h
  have hsl := h.lt
  clear h
  go_enter Try.func89, Try.ntmps89
  go_wp2_with fail
  go_at_call 108
  refine (l01DrawPoint_any s a n cap m _ (sr_alloc HS.out _) hm hm2).mono ?_
  rintro e w1 ⟨x, y, rfl, b1, b2, b3, b4, hg1, hs1⟩
  have HK := Lib.hid (isPt_of hm2 b1 b2 b3 b4)
  have T1 := Lib.hid ((two_new w (.int .i64 0) (.int .i64 0) 30).kept hg1 (fun e => by cases e; omega))
  have G1 := Lib.hid ((World.grownBy_alloc w _ _).trans hg1)
  have hsl1 := hs1.lt
  obtain ⟨c0, c1, f0, f1, hb⟩ := T1.out
  clear hg1 b1 b2 b3 b4
  cases hz : (x == 0 && y == 0)
  · have HZ := Lib.hid hz
    go_wp2_with fail
    go_at_call 99
    refine (l01Part_any x y _ HK.out HZ.out).mono ?_
    rintro e w2 ⟨rfl, hb2⟩
    have G2 := Lib.hid (grown_below (grown_new (World.grownBy.refl w1 none) _) hb2)
    clear c0 c1 f0 f1 hb hb2
    obtain ⟨c0, c1, f0, f1, hb⟩ := T1.out.kept G2.out (by simp)
    have hs2 := Lib.hid (hs1.kept G2.out (fun k e => by cases e))
    clear hs1
    go_wp2
    refine bodyPost_ret (v := .agg #[.int .i64 (primP (x, y)).1, .int .i64 (primP (x, y)).2]) (by simp (maxDischargeDepth := 8) [results, Try.results89, go_sem, *]) rfl ?_
    exact ⟨_, _, rfl, grown_setN (grown_setN (G1.out.trans (grown_weaken G2.out _)) (Nat.le_refl _) _ _) (Nat.le_refl _) _ _, sr_set (sr_set hs2.out _ _ _ hsl) _ _ _ hsl⟩
  · have HS1 := Lib.hid hs1
    clear hs1
    go_wp2
    refine bodyPost_ret (v := .agg #[.int .i64 1, .int .i64 0]) (by simp (maxDischargeDepth := 8) [results, Try.results89, go_sem, *]) rfl ?_
    exact ⟨1, 0, rfl, by repeat' (first | exact G1.out | (refine grown_setN ?_ (by first | exact Nat.le_refl _ | omega) _ _) | (refine grown_new ?_ _)), by repeat' (first | exact HS1.out | (refine sr_set ?_ _ _ _ (by omega)) | (refine sr_alloc ?_ _))⟩
def Four (w : World) (b : Nat) (c0 c1 c2 c3 : Value) : Prop := w.cell? ⟨b, 0, none⟩ = some c0 ∧ w.cell? ⟨b, 1, none⟩ = some c1 ∧ w.cell? ⟨b, 2, none⟩ = some c2 ∧ w.cell? ⟨b, 3, none⟩ = some c3 ∧ w.frozen? ⟨b, 0, none⟩ = false ∧ w.frozen? ⟨b, 1, none⟩ = false ∧ w.frozen? ⟨b, 2, none⟩ = false ∧ w.frozen? ⟨b, 3, none⟩ = false ∧ b < w.heap.size
theorem four_new (w : World) (c0 c1 c2 c3 : Value) (t : TypeId) : Four (w.alloc (.cells #[c0, c1, c2, c3] t)) w.heap.size c0 c1 c2 c3 := by
  have h := World.alloc_heap_new w (.cells #[c0, c1, c2, c3] t)
  unfold Four World.cell? World.frozen?
  simp only [h]
  simp
theorem Four.kept {w w1 : World} {row : Option Nat} {b : Nat} {c0 c1 c2 c3 : Value} (h : Four w b c0 c1 c2 c3) (hg : w.grownBy w1 row) (hne : some b ≠ row) : Four w1 b c0 c1 c2 c3 := by
  obtain ⟨h0, h1, h2, h3, f0, f1, f2, f3, hb⟩ := h
  obtain ⟨k0, l0⟩ := kept_cell hg hb hne 0
  obtain ⟨k1, l1⟩ := kept_cell hg hb hne 1
  obtain ⟨k2, l2⟩ := kept_cell hg hb hne 2
  obtain ⟨k3, l3⟩ := kept_cell hg hb hne 3
  exact ⟨k0.trans h0, k1.trans h1, k2.trans h2, k3.trans h3, l0.trans f0, l1.trans f1, l2.trans f2, l3.trans f3, Nat.lt_of_lt_of_le hb hg.size⟩
theorem Four.set {w : World} {b : Nat} {c0 c1 c2 c3 : Value} (h : Four w b c0 c1 c2 c3) (d0 d1 d2 d3 : Value) : Four ((((w.setCell ⟨b, 0, none⟩ d0).setCell ⟨b, 1, none⟩ d1).setCell ⟨b, 2, none⟩ d2).setCell ⟨b, 3, none⟩ d3) b d0 d1 d2 d3 := by
  obtain ⟨h0, h1, h2, h3, f0, f1, f2, f3, hb⟩ := h
  have o : ∀ (w : World) (i j : Nat) (v : Value), i ≠ j → (w.setCell ⟨b, i, none⟩ v).cell? ⟨b, j, none⟩ = w.cell? ⟨b, j, none⟩ := fun w i j v hn => World.cell?_setCell_other _ _ _ _ (fun e => hn (by cases e; rfl))
  refine ⟨?_, ?_, ?_, ?_, by simpa using f0, by simpa using f1, by simpa using f2, by simpa using f3, by simpa using hb⟩
  · rw [o _ _ _ _ (by omega), o _ _ _ _ (by omega), o _ _ _ _ (by omega)]; exact World.cell?_setCell_same _ _ _ h0
  · rw [o _ _ _ _ (by omega), o _ _ _ _ (by omega)]; exact World.cell?_setCell_same _ _ _ ((o _ _ _ _ (by omega)).trans h1)
  · rw [o _ _ _ _ (by omega)]; exact World.cell?_setCell_same _ _ _ ((o _ _ _ _ (by omega)).trans ((o _ _ _ _ (by omega)).trans h2))
  · exact World.cell?_setCell_same _ _ _ ((o _ _ _ _ (by omega)).trans ((o _ _ _ _ (by omega)).trans ((o _ _ _ _ (by omega)).trans h3)))
theorem Four.other {w : World} {b b' : Nat} {c0 c1 c2 c3 : Value} (h : Four w b c0 c1 c2 c3) (hne : b ≠ b') (i : Nat) (d : Value) : Four (w.setCell ⟨b', i, none⟩ d) b c0 c1 c2 c3 :=
  h.kept (grown_setB (World.grownBy.refl w (some b')) i d) (fun e => hne (by cases e; rfl))
theorem pow4 (B : Int) (j : Nat) (h : B * 4 ^ (j + 1) ≤ 256) : 4 * B * 4 ^ j ≤ 256 := by
  have e : 4 * B * (4 : Int) ^ j = B * 4 ^ (j + 1) := by rw [Int.pow_succ, Int.mul_comm 4 B, Int.mul_assoc, Int.mul_comm 4]
  omega
theorem pow4_le (B : Int) (j : Nat) (hB : 0 ≤ B) (h : B * 4 ^ j ≤ 256) : B ≤ 256 := by
  have h1 : (1 : Int) ≤ 4 ^ j := by
    have := Int.pow_pos (n := (4 : Int)) (m := j) (by omega)
    omega
  have h2 := Int.mul_le_mul_of_nonneg_left h1 hB
  omega
set_option maxHeartbeats 1600000 in
theorem l01DrawUnit_any (s : Nat) (a : Option Addr) (n cap : Nat) (w : World) (h : Sr w s a n cap) :
    Calls Try.prog 109 #[.pointer (some ⟨s, 0, none⟩)] w fun e w' => ∃ p q r t : Int, e = .returned (.agg #[.int .i64 p, .int .i64 q, .int .i64 r, .int .i64 t]) ∧ Drew s a n cap w w' := by
  have HS := Lib.hid h
  have hsl := h.lt
  clear h
  go_enter Try.func109, Try.ntmps109
  go_wp2_with fail
  go_at_call 87
  refine (l01Next_any s a n cap _ _ (sr_alloc (sr_alloc HS.out _) _)).mono ?_
  rintro e w1 ⟨v, rfl, -, hv, hg1, hs1⟩
  obtain ⟨b1, b2⟩ := hv (by omega)
  have HR := Lib.hid (((four_new w (.int .i64 0) (.int .i64 0) (.int .i64 0) (.int .i64 0) 26).kept (World.grownBy_alloc _ (.cells #[.int .i64 1, .int .i64 0, .int .i64 0, .int .i64 1] 26) none) (by simp)).kept hg1 (fun e => by cases e; omega))
  have HO := Lib.hid ((four_new (w.alloc (.cells #[.int .i64 0, .int .i64 0, .int .i64 0, .int .i64 0] 26)) (.int .i64 1) (.int .i64 0) (.int .i64 0) (.int .i64 1) 26).kept hg1 (fun e => by simp at e; omega))
  rw [World.size_alloc] at HO
  have G1 := Lib.hid (((World.grownBy_alloc w _ _).trans (World.grownBy_alloc _ _ _)).trans hg1)
  clear hg1 hv
  obtain ⟨j, rfl⟩ : ∃ j : Nat, v = j := ⟨v.toNat, by omega⟩
  go_wp2_with fail
  go_loopw [4] (fun i wr => ∃ (j : Nat) (p q r t B : Int), i = .int .i64 j ∧ j ≤ 4 ∧ 0 ≤ B ∧ B * 4 ^ j ≤ 256 ∧ (-B ≤ p ∧ p ≤ B) ∧ (-B ≤ q ∧ q ≤ B) ∧ (-B ≤ r ∧ r ≤ B) ∧ (-B ≤ t ∧ t ≤ B) ∧ Four wr w.heap.size (.int .i64 0) (.int .i64 0) (.int .i64 0) (.int .i64 0) ∧ Four wr (w.heap.size + 1) (.int .i64 p) (.int .i64 q) (.int .i64 r) (.int .i64 t) ∧ w.grownBy wr (some s) ∧ Sr wr s a n cap) (fun i _ => (intOf i).toNat)
  case atStart =>
    exact ⟨j, 1, 0, 0, 1, 1, rfl, by omega, by omega, by rcases (show j = 0 ∨ j = 1 ∨ j = 2 ∨ j = 3 ∨ j = 4 by omega) with rfl | rfl | rfl | rfl | rfl <;> decide, by omega, by omega, by omega, by omega, HR.out, HO.out, G1.out, hs1⟩
  case round =>
    clear HR HO G1 hs1 b1 b2
    obtain ⟨j, p, q, r, t, B, rfl, hj4, hB, hP, hp, hq, hr, ht, hR, hO, hg, hs⟩ := hrel
    have HG := Lib.hid hg
    have HR := Lib.hid hR
    have HO := Lib.hid hO
    have hB2 := pow4_le B j hB hP
    by_cases hj : j = 0
    · subst hj
      obtain ⟨c0, c1, c2, c3, f0, f1, f2, f3, hb⟩ := hO
      obtain ⟨d0, d1, d2, d3, g0, g1, g2, g3, hd⟩ := hR
      have HS1 := Lib.hid hs
      clear hg hs hP
      go_wp2
      refine bodyPost_ret (v := .agg #[.int .i64 p, .int .i64 q, .int .i64 r, .int .i64 t]) (by simp (maxDischargeDepth := 8) [results, Try.results109, go_sem, *]) rfl ?_
      exact ⟨p, q, r, t, rfl, grown_setN (grown_setN (grown_setN (grown_setN HG.out (Nat.le_refl _) _ _) (Nat.le_refl _) _ _) (Nat.le_refl _) _ _) (Nat.le_refl _) _ _, sr_set (sr_set (sr_set (sr_set HS1.out _ _ _ hsl) _ _ _ hsl) _ _ _ hsl) _ _ _ hsl⟩
    · have hP' : 4 * B * 4 ^ (j - 1) ≤ 256 := pow4 B (j - 1) (by rw [show j - 1 + 1 = j by omega]; exact hP)
      have hj1 : 1 ≤ j := by omega
      have hwj : wrap64 ((j : Int) - 1) = j - 1 := IntWalk.wrap64_in _ (by omega)
      clear hg hR hO hP hj
      go_wp2_with fail
      go_at_call 87
      refine (l01Next_any s a n cap _ _ hs).mono ?_
      rintro e w2 ⟨v2, rfl, -, hv2, hg2, hs2⟩
      obtain ⟨b1, b2⟩ := hv2 (by omega)
      have HO2 := Lib.hid (HO.out.kept hg2 (fun e => by simp at e; omega))
      have HR2 := Lib.hid (HR.out.kept hg2 (fun e => by simp at e; omega))
      have HG2 := Lib.hid (HG.out.trans hg2)
      obtain ⟨k, hk⟩ : ∃ k, k = v2 - 3 := ⟨_, rfl⟩
      clear hg2 hv2 hs
      go_wp2_with fail
      go_at_call 87
      refine (l01Next_any s a n cap _ _ hs2).mono ?_
      rintro e w3 ⟨v3, rfl, -, hv3, hg3, hs3⟩
      obtain ⟨a1, a2⟩ := hv3 (by omega)
      have HO3 := Lib.hid (HO2.out.kept hg3 (fun e => by simp at e; omega))
      have HR3 := Lib.hid (HR2.out.kept hg3 (fun e => by simp at e; omega))
      have HG3 := Lib.hid (HG2.out.trans hg3)
      clear hg3 hv3 hs2
      rw [← hk]
      have hkb : -3 ≤ k ∧ k ≤ 3 := by omega
      clear hk b1 b2
      obtain ⟨c0, c1, c2, c3, f0, f1, f2, f3, hb⟩ := HO3.out
      rcases (show v3 = 0 ∨ v3 = 1 ∨ v3 = 2 by omega) with rfl | rfl | rfl
      · have mp := mul_bd hp.1 hp.2 (show -3 ≤ k by omega) (show k ≤ 3 by omega)
        have mr := mul_bd hr.1 hr.2 (show -3 ≤ k by omega) (show k ≤ 3 by omega)
        obtain ⟨q', hq'⟩ : ∃ x, p * k + q = x := ⟨_, rfl⟩
        obtain ⟨t', ht'⟩ : ∃ x, r * k + t = x := ⟨_, rfl⟩
        have HT := Lib.hid (fun w => (show Calls Try.prog 107 #[.agg #[.int .i64 p, .int .i64 q, .int .i64 r, .int .i64 t], .agg #[.int .i64 1, .int .i64 k, .int .i64 0, .int .i64 1]] w fun e w' => e = .returned (.agg #[.int .i64 p, .int .i64 q', .int .i64 r, .int .i64 t']) ∧ Below w.heap.size w w' from by
          have := l01Times_any p q r t (1) (k) (0) (1) w ⟨by omega, by omega⟩ ⟨by omega, by omega⟩ ⟨by omega, by omega⟩ ⟨by omega, by omega⟩ ⟨by omega, by omega⟩ ⟨by omega, by omega⟩ ⟨by omega, by omega⟩ ⟨by omega, by omega⟩
          simpa [hq', ht'] using this))
        go_wp2_with fail
        go_at_call 107
        refine (HT.out _).mono ?_
        rintro e w4 ⟨rfl, hb4⟩
        have G4 := Lib.hid (grown_below (World.grownBy.refl _ none) hb4)
        clear hb4 c0 c1 c2 c3 f0 f1 f2 f3 hb
        have HO4 := Lib.hid (HO3.out.kept G4.out (by simp))
        have HR4 := Lib.hid (HR3.out.kept G4.out (by simp))
        have HS4 := Lib.hid (hs3.kept G4.out (fun k e => by cases e))
        clear hs3
        obtain ⟨c0, c1, c2, c3, f0, f1, f2, f3, hb⟩ := HO4.out
        go_wp2
        refine ⟨⟨j - 1, p, q', r, t', 4 * B, congrArg (Value.int .i64) (by omega), by omega, by omega, hP', by omega, by omega, by omega, by omega, (((HR4.out.other (by omega) _ _).other (by omega) _ _).other (by omega) _ _).other (by omega) _ _, HO4.out.set _ _ _ _, ?_, ?_⟩, ?_⟩
        · exact grown_setN (grown_setN (grown_setN (grown_setN (HG3.out.trans (grown_weaken G4.out _)) (by omega) _ _) (by omega) _ _) (by omega) _ _) (by omega) _ _
        · exact sr_set (sr_set (sr_set (sr_set HS4.out _ _ _ (by omega)) _ _ _ (by omega)) _ _ _ (by omega)) _ _ _ (by omega)
        · simp only [intOf]
          omega
      · have mq := mul_bd hq.1 hq.2 (show -3 ≤ k by omega) (show k ≤ 3 by omega)
        have mt := mul_bd ht.1 ht.2 (show -3 ≤ k by omega) (show k ≤ 3 by omega)
        obtain ⟨p', hp'⟩ : ∃ x, p + q * k = x := ⟨_, rfl⟩
        obtain ⟨r', hr'⟩ : ∃ x, r + t * k = x := ⟨_, rfl⟩
        have HT := Lib.hid (fun w => (show Calls Try.prog 107 #[.agg #[.int .i64 p, .int .i64 q, .int .i64 r, .int .i64 t], .agg #[.int .i64 1, .int .i64 0, .int .i64 k, .int .i64 1]] w fun e w' => e = .returned (.agg #[.int .i64 p', .int .i64 q, .int .i64 r', .int .i64 t]) ∧ Below w.heap.size w w' from by
          have := l01Times_any p q r t (1) (0) (k) (1) w ⟨by omega, by omega⟩ ⟨by omega, by omega⟩ ⟨by omega, by omega⟩ ⟨by omega, by omega⟩ ⟨by omega, by omega⟩ ⟨by omega, by omega⟩ ⟨by omega, by omega⟩ ⟨by omega, by omega⟩
          simpa [hp', hr'] using this))
        go_wp2_with fail
        go_at_call 107
        refine (HT.out _).mono ?_
        rintro e w4 ⟨rfl, hb4⟩
        have G4 := Lib.hid (grown_below (World.grownBy.refl _ none) hb4)
        clear hb4 c0 c1 c2 c3 f0 f1 f2 f3 hb
        have HO4 := Lib.hid (HO3.out.kept G4.out (by simp))
        have HR4 := Lib.hid (HR3.out.kept G4.out (by simp))
        have HS4 := Lib.hid (hs3.kept G4.out (fun k e => by cases e))
        clear hs3
        obtain ⟨c0, c1, c2, c3, f0, f1, f2, f3, hb⟩ := HO4.out
        go_wp2
        refine ⟨⟨j - 1, p', q, r', t, 4 * B, congrArg (Value.int .i64) (by omega), by omega, by omega, hP', by omega, by omega, by omega, by omega, (((HR4.out.other (by omega) _ _).other (by omega) _ _).other (by omega) _ _).other (by omega) _ _, HO4.out.set _ _ _ _, ?_, ?_⟩, ?_⟩
        · exact grown_setN (grown_setN (grown_setN (grown_setN (HG3.out.trans (grown_weaken G4.out _)) (by omega) _ _) (by omega) _ _) (by omega) _ _) (by omega) _ _
        · exact sr_set (sr_set (sr_set (sr_set HS4.out _ _ _ (by omega)) _ _ _ (by omega)) _ _ _ (by omega)) _ _ _ (by omega)
        · simp only [intOf]
          omega
      · have HT := Lib.hid (fun w => (show Calls Try.prog 107 #[.agg #[.int .i64 p, .int .i64 q, .int .i64 r, .int .i64 t], .agg #[.int .i64 0, .int .i64 1, .int .i64 1, .int .i64 0]] w fun e w' => e = .returned (.agg #[.int .i64 q, .int .i64 p, .int .i64 t, .int .i64 r]) ∧ Below w.heap.size w w' from by
          have := l01Times_any p q r t (0) (1) (1) (0) w ⟨by omega, by omega⟩ ⟨by omega, by omega⟩ ⟨by omega, by omega⟩ ⟨by omega, by omega⟩ ⟨by omega, by omega⟩ ⟨by omega, by omega⟩ ⟨by omega, by omega⟩ ⟨by omega, by omega⟩
          simpa  using this))
        go_wp2_with fail
        go_at_call 107
        refine (HT.out _).mono ?_
        rintro e w4 ⟨rfl, hb4⟩
        have G4 := Lib.hid (grown_below (World.grownBy.refl _ none) hb4)
        clear hb4 c0 c1 c2 c3 f0 f1 f2 f3 hb
        have HO4 := Lib.hid (HO3.out.kept G4.out (by simp))
        have HR4 := Lib.hid (HR3.out.kept G4.out (by simp))
        have HS4 := Lib.hid (hs3.kept G4.out (fun k e => by cases e))
        clear hs3
        obtain ⟨c0, c1, c2, c3, f0, f1, f2, f3, hb⟩ := HO4.out
        go_wp2
        refine ⟨⟨j - 1, q, p, t, r, 4 * B, congrArg (Value.int .i64) (by omega), by omega, by omega, hP', by omega, by omega, by omega, by omega, (((HR4.out.other (by omega) _ _).other (by omega) _ _).other (by omega) _ _).other (by omega) _ _, HO4.out.set _ _ _ _, ?_, ?_⟩, ?_⟩
        · exact grown_setN (grown_setN (grown_setN (grown_setN (HG3.out.trans (grown_weaken G4.out _)) (by omega) _ _) (by omega) _ _) (by omega) _ _) (by omega) _ _
        · exact sr_set (sr_set (sr_set (sr_set HS4.out _ _ _ (by omega)) _ _ _ (by omega)) _ _ _ (by omega)) _ _ _ (by omega)
        · simp only [intOf]
          omega
end Go.Proofs.Ytoenlpkphekbnaa
