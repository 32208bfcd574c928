/-
  Conjugate matrices, in the program and in the model (own work).
-/
import Derived.Test.YtohnmogejidpdaaMxC
import Derived.Test.YtohnmogejidpdaaBk4
import Derived.Deep.Cut
import Derived.Deep.RegionWith
namespace Go.Proofs.Ytohnmogejidpdaa
open Go.ChangeShapes Go.WideShapes Go.ChangeAt Go.RowKit
set_option linter.unusedVariables false
set_option linter.unusedSimpArgs false
set_option maxRecDepth 100000

theorem impl_Conj_no (a b c d e f g h : Int) (w : World) (hm : isMx a b c d = false) : Calls Try.prog 26 #[.agg #[.int .i64 a, .int .i64 b, .int .i64 c, .int .i64 d], .agg #[.int .i64 e, .int .i64 f, .int .i64 g, .int .i64 h]] w fun e1 w' => e1 = .returned (.tuple #[.agg #[.int .i64 0, .int .i64 0, .int .i64 0, .int .i64 0], .int .i64 1]) ∧ Below w.heap.size w w' := by
  obtain ⟨GX, hG⟩ : ∃ G, w.heap.size = G := ⟨_, rfl⟩
  have HG := Lib.hid hG
  go_enter Try.func26, Try.ntmps26
  go_upto_region 1 with fail
  obtain ⟨w0, hw0⟩ : ∃ w0, w0 = (((w.alloc (.cells #[.int .i64 a, .int .i64 b, .int .i64 c, .int .i64 d] 26)).alloc (.cells #[.int .i64 e, .int .i64 f, .int .i64 g, .int .i64 h] 26)).alloc (.cells #[.int .i64 0, .int .i64 0, .int .i64 0, .int .i64 0] 26)) := ⟨_, rfl⟩
  rw [← hw0]
  have HX : Hid (Bk4 w0 GX a b c d) := by
    have h := (bk4_new w a b c d 26).below (W' := (((w.alloc (.cells #[.int .i64 a, .int .i64 b, .int .i64 c, .int .i64 d] 26)).alloc (.cells #[.int .i64 e, .int .i64 f, .int .i64 g, .int .i64 h] 26)).alloc (.cells #[.int .i64 0, .int .i64 0, .int .i64 0, .int .i64 0] 26))) (by (repeat' (first | (with_reducible exact Below.refl _ _) | (with_reducible refine Below.alloc ?_ ?_ _) | (with_reducible refine Below.setCell ?_ ?_ _) | (with_reducible refine Below.drew ?_) | (with_reducible refine below_drewN ?_ _) | (with_reducible assumption) | (with_reducible refine below_after (by with_reducible assumption) ?_) | go_size)))
    (try simp only [World.size_alloc] at h)
    rw [hG] at h
    rw [hw0]; exact h
  have HY : Hid (Bk4 w0 (GX + 1) e f g h) := by
    have h := (bk4_new (w.alloc (.cells #[.int .i64 a, .int .i64 b, .int .i64 c, .int .i64 d] 26)) e f g h 26).below (W' := (((w.alloc (.cells #[.int .i64 a, .int .i64 b, .int .i64 c, .int .i64 d] 26)).alloc (.cells #[.int .i64 e, .int .i64 f, .int .i64 g, .int .i64 h] 26)).alloc (.cells #[.int .i64 0, .int .i64 0, .int .i64 0, .int .i64 0] 26))) (by (repeat' (first | (with_reducible exact Below.refl _ _) | (with_reducible refine Below.alloc ?_ ?_ _) | (with_reducible refine Below.setCell ?_ ?_ _) | (with_reducible refine Below.drew ?_) | (with_reducible refine below_drewN ?_ _) | (with_reducible assumption) | (with_reducible refine below_after (by with_reducible assumption) ?_) | go_size)))
    (try simp only [World.size_alloc] at h)
    rw [hG] at h
    rw [hw0]; exact h
  have HR : Hid (Bk4 w0 (GX + 1 + 1) 0 0 0 0) := by
    have h := (bk4_new ((w.alloc (.cells #[.int .i64 a, .int .i64 b, .int .i64 c, .int .i64 d] 26)).alloc (.cells #[.int .i64 e, .int .i64 f, .int .i64 g, .int .i64 h] 26)) 0 0 0 0 26).below (W' := (((w.alloc (.cells #[.int .i64 a, .int .i64 b, .int .i64 c, .int .i64 d] 26)).alloc (.cells #[.int .i64 e, .int .i64 f, .int .i64 g, .int .i64 h] 26)).alloc (.cells #[.int .i64 0, .int .i64 0, .int .i64 0, .int .i64 0] 26))) (by (repeat' (first | (with_reducible exact Below.refl _ _) | (with_reducible refine Below.alloc ?_ ?_ _) | (with_reducible refine Below.setCell ?_ ?_ _) | (with_reducible refine Below.drew ?_) | (with_reducible refine below_drewN ?_ _) | (with_reducible assumption) | (with_reducible refine below_after (by with_reducible assumption) ?_) | go_size)))
    (try simp only [World.size_alloc] at h)
    rw [hG] at h
    rw [hw0]; exact h
  have HB : Hid (Below w.heap.size w w0) := by show Below w.heap.size w w0; rw [hw0]; (repeat' (first | (with_reducible exact Below.refl _ _) | (with_reducible refine Below.alloc ?_ ?_ _) | (with_reducible refine Below.setCell ?_ ?_ _) | (with_reducible refine Below.drew ?_) | (with_reducible refine below_drewN ?_ _) | (with_reducible assumption) | (with_reducible refine below_after (by with_reducible assumption) ?_) | go_size))
  clear hw0
  obtain ⟨GR, hGR⟩ : ∃ g, GX + 1 + 1 = g := ⟨_, rfl⟩
  rw [hGR] at HR ⊢
  obtain ⟨GY, hGY⟩ : ∃ g, GX + 1 = g := ⟨_, rfl⟩
  rw [hGY] at HY ⊢
  have le_X : w.heap.size ≤ GX := by omega
  have le_Y : w.heap.size ≤ GY := by omega
  have ne_Y_X : GY ≠ GX := by omega
  have ne_X_Y : GX ≠ GY := by omega
  have le_R : w.heap.size ≤ GR := by omega
  have ne_R_X : GR ≠ GX := by omega
  have ne_X_R : GX ≠ GR := by omega
  have ne_R_Y : GR ≠ GY := by omega
  have ne_Y_R : GY ≠ GR := by omega
  clear hGY hGR
  obtain ⟨⟨qX0, qX1, qX2, qX3⟩, ⟨fX0, fX1, fX2, fX3⟩, zX⟩ := HX.out
  obtain ⟨⟨qY0, qY1, qY2, qY3⟩, ⟨fY0, fY1, fY2, fY3⟩, zY⟩ := HY.out
  obtain ⟨⟨qR0, qR1, qR2, qR3⟩, ⟨fR0, fR1, fR2, fR3⟩, zR⟩ := HR.out
  go_wp2_with fail
  go_at_call 54
  refine (impl_IsMatrix_any a b c d _).mono ?_
  rintro e w1 ⟨rfl, hb⟩
  clear qX0 fX0 qX1 fX1 qX2 fX2 qX3 fX3 zX qY0 fY0 qY1 fY1 qY2 fY2 qY3 fY3 zY qR0 fR0 qR1 fR1 qR2 fR2 qR3 fR3 zR
  have HX := Lib.hid (HX.out.below hb)
  have HY := Lib.hid (HY.out.below hb)
  have HR := Lib.hid (HR.out.below hb)
  have HB := Lib.hid (below_after hb HB.out)
  clear hb
  obtain ⟨⟨qX0, qX1, qX2, qX3⟩, ⟨fX0, fX1, fX2, fX3⟩, zX⟩ := HX.out
  obtain ⟨⟨qY0, qY1, qY2, qY3⟩, ⟨fY0, fY1, fY2, fY3⟩, zY⟩ := HY.out
  obtain ⟨⟨qR0, qR1, qR2, qR3⟩, ⟨fR0, fR1, fR2, fR3⟩, zR⟩ := HR.out
  go_wp2_with fail
  refine bodyPost_ret (v := .tuple #[.agg #[.int .i64 0, .int .i64 0, .int .i64 0, .int .i64 0], .int .i64 1]) (by simp (maxDischargeDepth := 8) [results, Try.results26, go_sem, *]) rfl ?_
  have hb := HB.out
  exact ⟨rfl, by (repeat' (first | (with_reducible exact Below.refl _ _) | (with_reducible refine Below.alloc ?_ ?_ _) | (with_reducible refine Below.setCell ?_ ?_ _) | (with_reducible refine Below.drew ?_) | (with_reducible refine below_drewN ?_ _) | (with_reducible assumption) | (with_reducible refine below_after (by with_reducible assumption) ?_) | go_size))⟩
theorem impl_Conj_inv (a b c d e f g h x : Int) (w : World) (hm : isMx a b c d = true) (hx : (x == 0) = false) (HI : Hid (∀ w, Calls Try.prog 67 #[.agg #[.int .i64 e, .int .i64 f, .int .i64 g, .int .i64 h]] w fun e w' => e = .returned (.tuple #[.agg #[.int .i64 0, .int .i64 0, .int .i64 0, .int .i64 0], .int .i64 x]) ∧ Below w.heap.size w w')) : Calls Try.prog 26 #[.agg #[.int .i64 a, .int .i64 b, .int .i64 c, .int .i64 d], .agg #[.int .i64 e, .int .i64 f, .int .i64 g, .int .i64 h]] w fun e1 w' => e1 = .returned (.tuple #[.agg #[.int .i64 0, .int .i64 0, .int .i64 0, .int .i64 0], .int .i64 x]) ∧ Below w.heap.size w w' := by
  obtain ⟨GX, hG⟩ : ∃ G, w.heap.size = G := ⟨_, rfl⟩
  have HG := Lib.hid hG
  go_enter Try.func26, Try.ntmps26
  go_upto_region 1 with fail
  obtain ⟨w0, hw0⟩ : ∃ w0, w0 = (((w.alloc (.cells #[.int .i64 a, .int .i64 b, .int .i64 c, .int .i64 d] 26)).alloc (.cells #[.int .i64 e, .int .i64 f, .int .i64 g, .int .i64 h] 26)).alloc (.cells #[.int .i64 0, .int .i64 0, .int .i64 0, .int .i64 0] 26)) := ⟨_, rfl⟩
  rw [← hw0]
  have HX : Hid (Bk4 w0 GX a b c d) := by
    have h := (bk4_new w a b c d 26).below (W' := (((w.alloc (.cells #[.int .i64 a, .int .i64 b, .int .i64 c, .int .i64 d] 26)).alloc (.cells #[.int .i64 e, .int .i64 f, .int .i64 g, .int .i64 h] 26)).alloc (.cells #[.int .i64 0, .int .i64 0, .int .i64 0, .int .i64 0] 26))) (by (repeat' (first | (with_reducible exact Below.refl _ _) | (with_reducible refine Below.alloc ?_ ?_ _) | (with_reducible refine Below.setCell ?_ ?_ _) | (with_reducible refine Below.drew ?_) | (with_reducible refine below_drewN ?_ _) | (with_reducible assumption) | (with_reducible refine below_after (by with_reducible assumption) ?_) | go_size)))
    (try simp only [World.size_alloc] at h)
    rw [hG] at h
    rw [hw0]; exact h
  have HY : Hid (Bk4 w0 (GX + 1) e f g h) := by
    have h := (bk4_new (w.alloc (.cells #[.int .i64 a, .int .i64 b, .int .i64 c, .int .i64 d] 26)) e f g h 26).below (W' := (((w.alloc (.cells #[.int .i64 a, .int .i64 b, .int .i64 c, .int .i64 d] 26)).alloc (.cells #[.int .i64 e, .int .i64 f, .int .i64 g, .int .i64 h] 26)).alloc (.cells #[.int .i64 0, .int .i64 0, .int .i64 0, .int .i64 0] 26))) (by (repeat' (first | (with_reducible exact Below.refl _ _) | (with_reducible refine Below.alloc ?_ ?_ _) | (with_reducible refine Below.setCell ?_ ?_ _) | (with_reducible refine Below.drew ?_) | (with_reducible refine below_drewN ?_ _) | (with_reducible assumption) | (with_reducible refine below_after (by with_reducible assumption) ?_) | go_size)))
    (try simp only [World.size_alloc] at h)
    rw [hG] at h
    rw [hw0]; exact h
  have HR : Hid (Bk4 w0 (GX + 1 + 1) 0 0 0 0) := by
    have h := (bk4_new ((w.alloc (.cells #[.int .i64 a, .int .i64 b, .int .i64 c, .int .i64 d] 26)).alloc (.cells #[.int .i64 e, .int .i64 f, .int .i64 g, .int .i64 h] 26)) 0 0 0 0 26).below (W' := (((w.alloc (.cells #[.int .i64 a, .int .i64 b, .int .i64 c, .int .i64 d] 26)).alloc (.cells #[.int .i64 e, .int .i64 f, .int .i64 g, .int .i64 h] 26)).alloc (.cells #[.int .i64 0, .int .i64 0, .int .i64 0, .int .i64 0] 26))) (by (repeat' (first | (with_reducible exact Below.refl _ _) | (with_reducible refine Below.alloc ?_ ?_ _) | (with_reducible refine Below.setCell ?_ ?_ _) | (with_reducible refine Below.drew ?_) | (with_reducible refine below_drewN ?_ _) | (with_reducible assumption) | (with_reducible refine below_after (by with_reducible assumption) ?_) | go_size)))
    (try simp only [World.size_alloc] at h)
    rw [hG] at h
    rw [hw0]; exact h
  have HB : Hid (Below w.heap.size w w0) := by show Below w.heap.size w w0; rw [hw0]; (repeat' (first | (with_reducible exact Below.refl _ _) | (with_reducible refine Below.alloc ?_ ?_ _) | (with_reducible refine Below.setCell ?_ ?_ _) | (with_reducible refine Below.drew ?_) | (with_reducible refine below_drewN ?_ _) | (with_reducible assumption) | (with_reducible refine below_after (by with_reducible assumption) ?_) | go_size))
  clear hw0
  obtain ⟨GR, hGR⟩ : ∃ g, GX + 1 + 1 = g := ⟨_, rfl⟩
  rw [hGR] at HR ⊢
  obtain ⟨GY, hGY⟩ : ∃ g, GX + 1 = g := ⟨_, rfl⟩
  rw [hGY] at HY ⊢
  have le_X : w.heap.size ≤ GX := by omega
  have le_Y : w.heap.size ≤ GY := by omega
  have ne_Y_X : GY ≠ GX := by omega
  have ne_X_Y : GX ≠ GY := by omega
  have le_R : w.heap.size ≤ GR := by omega
  have ne_R_X : GR ≠ GX := by omega
  have ne_X_R : GX ≠ GR := by omega
  have ne_R_Y : GR ≠ GY := by omega
  have ne_Y_R : GY ≠ GR := by omega
  clear hGY hGR
  obtain ⟨⟨qX0, qX1, qX2, qX3⟩, ⟨fX0, fX1, fX2, fX3⟩, zX⟩ := HX.out
  obtain ⟨⟨qY0, qY1, qY2, qY3⟩, ⟨fY0, fY1, fY2, fY3⟩, zY⟩ := HY.out
  obtain ⟨⟨qR0, qR1, qR2, qR3⟩, ⟨fR0, fR1, fR2, fR3⟩, zR⟩ := HR.out
  go_wp2_with fail
  go_at_call 54
  refine (impl_IsMatrix_any a b c d _).mono ?_
  rintro e w1 ⟨rfl, hb⟩
  clear qX0 fX0 qX1 fX1 qX2 fX2 qX3 fX3 zX qY0 fY0 qY1 fY1 qY2 fY2 qY3 fY3 zY qR0 fR0 qR1 fR1 qR2 fR2 qR3 fR3 zR
  have HX := Lib.hid (HX.out.below hb)
  have HY := Lib.hid (HY.out.below hb)
  have HR := Lib.hid (HR.out.below hb)
  have HB := Lib.hid (below_after hb HB.out)
  clear hb
  obtain ⟨⟨qX0, qX1, qX2, qX3⟩, ⟨fX0, fX1, fX2, fX3⟩, zX⟩ := HX.out
  obtain ⟨⟨qY0, qY1, qY2, qY3⟩, ⟨fY0, fY1, fY2, fY3⟩, zY⟩ := HY.out
  obtain ⟨⟨qR0, qR1, qR2, qR3⟩, ⟨fR0, fR1, fR2, fR3⟩, zR⟩ := HR.out
  go_wp2_with fail
  go_at_call 67
  refine (HI.out _).mono ?_
  rintro e w2 ⟨rfl, hb⟩
  clear qX0 fX0 qX1 fX1 qX2 fX2 qX3 fX3 zX qY0 fY0 qY1 fY1 qY2 fY2 qY3 fY3 zY qR0 fR0 qR1 fR1 qR2 fR2 qR3 fR3 zR
  have HX := Lib.hid (HX.out.below hb)
  have HY := Lib.hid (HY.out.below hb)
  have HR := Lib.hid (HR.out.below hb)
  have HB := Lib.hid (below_after hb HB.out)
  clear hb
  obtain ⟨⟨qX0, qX1, qX2, qX3⟩, ⟨fX0, fX1, fX2, fX3⟩, zX⟩ := HX.out
  obtain ⟨⟨qY0, qY1, qY2, qY3⟩, ⟨fY0, fY1, fY2, fY3⟩, zY⟩ := HY.out
  obtain ⟨⟨qR0, qR1, qR2, qR3⟩, ⟨fR0, fR1, fR2, fR3⟩, zR⟩ := HR.out
  go_upto_region 4 with fail
  obtain ⟨GN, hGN⟩ : ∃ g, w2.heap.size = g := ⟨_, rfl⟩
  obtain ⟨w3, hw3⟩ : ∃ wx, wx = w2.alloc (.cells #[.int .i64 0, .int .i64 0, .int .i64 0, .int .i64 0] 26) := ⟨_, rfl⟩
  rw [← hw3, hGN]
  have HN : Hid (Bk4 w3 GN 0 0 0 0) := by rw [hw3, ← hGN]; exact bk4_new w2 0 0 0 0 _
  have le_N : w.heap.size ≤ GN := by rw [← hGN]; exact HB.out.size
  have ne_N_X : GN ≠ GX := by have := HX.out.2.2; omega
  have ne_X_N : GX ≠ GN := Ne.symm ne_N_X
  have ne_N_Y : GN ≠ GY := by have := HY.out.2.2; omega
  have ne_Y_N : GY ≠ GN := Ne.symm ne_N_Y
  have ne_N_R : GN ≠ GR := by have := HR.out.2.2; omega
  have ne_R_N : GR ≠ GN := Ne.symm ne_N_R
  clear qX0 fX0 qX1 fX1 qX2 fX2 qX3 fX3 zX qY0 fY0 qY1 fY1 qY2 fY2 qY3 fY3 zY qR0 fR0 qR1 fR1 qR2 fR2 qR3 fR3 zR
  have HX := Lib.hid (HX.out.below ((Below.refl _ _).alloc (Nat.le_refl _) (.cells #[.int .i64 0, .int .i64 0, .int .i64 0, .int .i64 0] 26)))
  have HY := Lib.hid (HY.out.below ((Below.refl _ _).alloc (Nat.le_refl _) (.cells #[.int .i64 0, .int .i64 0, .int .i64 0, .int .i64 0] 26)))
  have HR := Lib.hid (HR.out.below ((Below.refl _ _).alloc (Nat.le_refl _) (.cells #[.int .i64 0, .int .i64 0, .int .i64 0, .int .i64 0] 26)))
  have HB := Lib.hid (Below.alloc HB.out HB.out.size (.cells #[.int .i64 0, .int .i64 0, .int .i64 0, .int .i64 0] 26))
  rw [← hw3] at HX HY HR HB
  clear hw3 hGN
  obtain ⟨⟨qX0, qX1, qX2, qX3⟩, ⟨fX0, fX1, fX2, fX3⟩, zX⟩ := HX.out
  obtain ⟨⟨qY0, qY1, qY2, qY3⟩, ⟨fY0, fY1, fY2, fY3⟩, zY⟩ := HY.out
  obtain ⟨⟨qR0, qR1, qR2, qR3⟩, ⟨fR0, fR1, fR2, fR3⟩, zR⟩ := HR.out
  obtain ⟨⟨qN0, qN1, qN2, qN3⟩, ⟨fN0, fN1, fN2, fN3⟩, zN⟩ := HN.out
  go_wp2_with fail
  refine bodyPost_ret (v := .tuple #[.agg #[.int .i64 0, .int .i64 0, .int .i64 0, .int .i64 0], .int .i64 x]) (by simp (maxDischargeDepth := 8) [results, Try.results26, go_sem, *]) rfl ?_
  have hb := HB.out
  exact ⟨rfl, by (repeat' (first | (with_reducible exact Below.refl _ _) | (with_reducible refine Below.alloc ?_ ?_ _) | (with_reducible refine Below.setCell ?_ ?_ _) | (with_reducible refine Below.drew ?_) | (with_reducible refine below_drewN ?_ _) | (with_reducible assumption) | (with_reducible refine below_after (by with_reducible assumption) ?_) | go_size))⟩
theorem impl_Conj_lim (a b c d e f g h i j k l : Int) (w : World) (hm : isMx a b c d = true) (HI : Hid (∀ w, Calls Try.prog 67 #[.agg #[.int .i64 e, .int .i64 f, .int .i64 g, .int .i64 h]] w fun e w' => e = .returned (.tuple #[.agg #[.int .i64 i, .int .i64 j, .int .i64 k, .int .i64 l], .int .i64 0]) ∧ Below w.heap.size w w')) (HM : Hid (∀ w, Calls Try.prog 68 #[.agg #[.int .i64 i, .int .i64 j, .int .i64 k, .int .i64 l], .agg #[.int .i64 a, .int .i64 b, .int .i64 c, .int .i64 d]] w fun e w' => e = .returned (.tuple #[.agg #[.int .i64 0, .int .i64 0, .int .i64 0, .int .i64 0], .int .i64 3]) ∧ Below w.heap.size w w')) : Calls Try.prog 26 #[.agg #[.int .i64 a, .int .i64 b, .int .i64 c, .int .i64 d], .agg #[.int .i64 e, .int .i64 f, .int .i64 g, .int .i64 h]] w fun e1 w' => e1 = .returned (.tuple #[.agg #[.int .i64 0, .int .i64 0, .int .i64 0, .int .i64 0], .int .i64 3]) ∧ Below w.heap.size w w' := by
  obtain ⟨GX, hG⟩ : ∃ G, w.heap.size = G := ⟨_, rfl⟩
  have HG := Lib.hid hG
  go_enter Try.func26, Try.ntmps26
  go_upto_region 1 with fail
  obtain ⟨w0, hw0⟩ : ∃ w0, w0 = (((w.alloc (.cells #[.int .i64 a, .int .i64 b, .int .i64 c, .int .i64 d] 26)).alloc (.cells #[.int .i64 e, .int .i64 f, .int .i64 g, .int .i64 h] 26)).alloc (.cells #[.int .i64 0, .int .i64 0, .int .i64 0, .int .i64 0] 26)) := ⟨_, rfl⟩
  rw [← hw0]
  have HX : Hid (Bk4 w0 GX a b c d) := by
    have h := (bk4_new w a b c d 26).below (W' := (((w.alloc (.cells #[.int .i64 a, .int .i64 b, .int .i64 c, .int .i64 d] 26)).alloc (.cells #[.int .i64 e, .int .i64 f, .int .i64 g, .int .i64 h] 26)).alloc (.cells #[.int .i64 0, .int .i64 0, .int .i64 0, .int .i64 0] 26))) (by (repeat' (first | (with_reducible exact Below.refl _ _) | (with_reducible refine Below.alloc ?_ ?_ _) | (with_reducible refine Below.setCell ?_ ?_ _) | (with_reducible refine Below.drew ?_) | (with_reducible refine below_drewN ?_ _) | (with_reducible assumption) | (with_reducible refine below_after (by with_reducible assumption) ?_) | go_size)))
    (try simp only [World.size_alloc] at h)
    rw [hG] at h
    rw [hw0]; exact h
  have HY : Hid (Bk4 w0 (GX + 1) e f g h) := by
    have h := (bk4_new (w.alloc (.cells #[.int .i64 a, .int .i64 b, .int .i64 c, .int .i64 d] 26)) e f g h 26).below (W' := (((w.alloc (.cells #[.int .i64 a, .int .i64 b, .int .i64 c, .int .i64 d] 26)).alloc (.cells #[.int .i64 e, .int .i64 f, .int .i64 g, .int .i64 h] 26)).alloc (.cells #[.int .i64 0, .int .i64 0, .int .i64 0, .int .i64 0] 26))) (by (repeat' (first | (with_reducible exact Below.refl _ _) | (with_reducible refine Below.alloc ?_ ?_ _) | (with_reducible refine Below.setCell ?_ ?_ _) | (with_reducible refine Below.drew ?_) | (with_reducible refine below_drewN ?_ _) | (with_reducible assumption) | (with_reducible refine below_after (by with_reducible assumption) ?_) | go_size)))
    (try simp only [World.size_alloc] at h)
    rw [hG] at h
    rw [hw0]; exact h
  have HR : Hid (Bk4 w0 (GX + 1 + 1) 0 0 0 0) := by
    have h := (bk4_new ((w.alloc (.cells #[.int .i64 a, .int .i64 b, .int .i64 c, .int .i64 d] 26)).alloc (.cells #[.int .i64 e, .int .i64 f, .int .i64 g, .int .i64 h] 26)) 0 0 0 0 26).below (W' := (((w.alloc (.cells #[.int .i64 a, .int .i64 b, .int .i64 c, .int .i64 d] 26)).alloc (.cells #[.int .i64 e, .int .i64 f, .int .i64 g, .int .i64 h] 26)).alloc (.cells #[.int .i64 0, .int .i64 0, .int .i64 0, .int .i64 0] 26))) (by (repeat' (first | (with_reducible exact Below.refl _ _) | (with_reducible refine Below.alloc ?_ ?_ _) | (with_reducible refine Below.setCell ?_ ?_ _) | (with_reducible refine Below.drew ?_) | (with_reducible refine below_drewN ?_ _) | (with_reducible assumption) | (with_reducible refine below_after (by with_reducible assumption) ?_) | go_size)))
    (try simp only [World.size_alloc] at h)
    rw [hG] at h
    rw [hw0]; exact h
  have HB : Hid (Below w.heap.size w w0) := by show Below w.heap.size w w0; rw [hw0]; (repeat' (first | (with_reducible exact Below.refl _ _) | (with_reducible refine Below.alloc ?_ ?_ _) | (with_reducible refine Below.setCell ?_ ?_ _) | (with_reducible refine Below.drew ?_) | (with_reducible refine below_drewN ?_ _) | (with_reducible assumption) | (with_reducible refine below_after (by with_reducible assumption) ?_) | go_size))
  clear hw0
  obtain ⟨GR, hGR⟩ : ∃ g, GX + 1 + 1 = g := ⟨_, rfl⟩
  rw [hGR] at HR ⊢
  obtain ⟨GY, hGY⟩ : ∃ g, GX + 1 = g := ⟨_, rfl⟩
  rw [hGY] at HY ⊢
  have le_X : w.heap.size ≤ GX := by omega
  have le_Y : w.heap.size ≤ GY := by omega
  have ne_Y_X : GY ≠ GX := by omega
  have ne_X_Y : GX ≠ GY := by omega
  have le_R : w.heap.size ≤ GR := by omega
  have ne_R_X : GR ≠ GX := by omega
  have ne_X_R : GX ≠ GR := by omega
  have ne_R_Y : GR ≠ GY := by omega
  have ne_Y_R : GY ≠ GR := by omega
  clear hGY hGR
  obtain ⟨⟨qX0, qX1, qX2, qX3⟩, ⟨fX0, fX1, fX2, fX3⟩, zX⟩ := HX.out
  obtain ⟨⟨qY0, qY1, qY2, qY3⟩, ⟨fY0, fY1, fY2, fY3⟩, zY⟩ := HY.out
  obtain ⟨⟨qR0, qR1, qR2, qR3⟩, ⟨fR0, fR1, fR2, fR3⟩, zR⟩ := HR.out
  go_wp2_with fail
  go_at_call 54
  refine (impl_IsMatrix_any a b c d _).mono ?_
  rintro e w1 ⟨rfl, hb⟩
  clear qX0 fX0 qX1 fX1 qX2 fX2 qX3 fX3 zX qY0 fY0 qY1 fY1 qY2 fY2 qY3 fY3 zY qR0 fR0 qR1 fR1 qR2 fR2 qR3 fR3 zR
  have HX := Lib.hid (HX.out.below hb)
  have HY := Lib.hid (HY.out.below hb)
  have HR := Lib.hid (HR.out.below hb)
  have HB := Lib.hid (below_after hb HB.out)
  clear hb
  obtain ⟨⟨qX0, qX1, qX2, qX3⟩, ⟨fX0, fX1, fX2, fX3⟩, zX⟩ := HX.out
  obtain ⟨⟨qY0, qY1, qY2, qY3⟩, ⟨fY0, fY1, fY2, fY3⟩, zY⟩ := HY.out
  obtain ⟨⟨qR0, qR1, qR2, qR3⟩, ⟨fR0, fR1, fR2, fR3⟩, zR⟩ := HR.out
  go_wp2_with fail
  go_at_call 67
  refine (HI.out _).mono ?_
  rintro e w2 ⟨rfl, hb⟩
  clear qX0 fX0 qX1 fX1 qX2 fX2 qX3 fX3 zX qY0 fY0 qY1 fY1 qY2 fY2 qY3 fY3 zY qR0 fR0 qR1 fR1 qR2 fR2 qR3 fR3 zR
  have HX := Lib.hid (HX.out.below hb)
  have HY := Lib.hid (HY.out.below hb)
  have HR := Lib.hid (HR.out.below hb)
  have HB := Lib.hid (below_after hb HB.out)
  clear hb
  obtain ⟨⟨qX0, qX1, qX2, qX3⟩, ⟨fX0, fX1, fX2, fX3⟩, zX⟩ := HX.out
  obtain ⟨⟨qY0, qY1, qY2, qY3⟩, ⟨fY0, fY1, fY2, fY3⟩, zY⟩ := HY.out
  obtain ⟨⟨qR0, qR1, qR2, qR3⟩, ⟨fR0, fR1, fR2, fR3⟩, zR⟩ := HR.out
  go_upto_region 4 with fail
  obtain ⟨GN, hGN⟩ : ∃ g, w2.heap.size = g := ⟨_, rfl⟩
  obtain ⟨w3, hw3⟩ : ∃ wx, wx = w2.alloc (.cells #[.int .i64 i, .int .i64 j, .int .i64 k, .int .i64 l] 26) := ⟨_, rfl⟩
  rw [← hw3, hGN]
  have HN : Hid (Bk4 w3 GN i j k l) := by rw [hw3, ← hGN]; exact bk4_new w2 i j k l _
  have le_N : w.heap.size ≤ GN := by rw [← hGN]; exact HB.out.size
  have ne_N_X : GN ≠ GX := by have := HX.out.2.2; omega
  have ne_X_N : GX ≠ GN := Ne.symm ne_N_X
  have ne_N_Y : GN ≠ GY := by have := HY.out.2.2; omega
  have ne_Y_N : GY ≠ GN := Ne.symm ne_N_Y
  have ne_N_R : GN ≠ GR := by have := HR.out.2.2; omega
  have ne_R_N : GR ≠ GN := Ne.symm ne_N_R
  clear qX0 fX0 qX1 fX1 qX2 fX2 qX3 fX3 zX qY0 fY0 qY1 fY1 qY2 fY2 qY3 fY3 zY qR0 fR0 qR1 fR1 qR2 fR2 qR3 fR3 zR
  have HX := Lib.hid (HX.out.below ((Below.refl _ _).alloc (Nat.le_refl _) (.cells #[.int .i64 i, .int .i64 j, .int .i64 k, .int .i64 l] 26)))
  have HY := Lib.hid (HY.out.below ((Below.refl _ _).alloc (Nat.le_refl _) (.cells #[.int .i64 i, .int .i64 j, .int .i64 k, .int .i64 l] 26)))
  have HR := Lib.hid (HR.out.below ((Below.refl _ _).alloc (Nat.le_refl _) (.cells #[.int .i64 i, .int .i64 j, .int .i64 k, .int .i64 l] 26)))
  have HB := Lib.hid (Below.alloc HB.out HB.out.size (.cells #[.int .i64 i, .int .i64 j, .int .i64 k, .int .i64 l] 26))
  rw [← hw3] at HX HY HR HB
  clear hw3 hGN
  obtain ⟨⟨qX0, qX1, qX2, qX3⟩, ⟨fX0, fX1, fX2, fX3⟩, zX⟩ := HX.out
  obtain ⟨⟨qY0, qY1, qY2, qY3⟩, ⟨fY0, fY1, fY2, fY3⟩, zY⟩ := HY.out
  obtain ⟨⟨qR0, qR1, qR2, qR3⟩, ⟨fR0, fR1, fR2, fR3⟩, zR⟩ := HR.out
  obtain ⟨⟨qN0, qN1, qN2, qN3⟩, ⟨fN0, fN1, fN2, fN3⟩, zN⟩ := HN.out
  go_wp2_with fail
  go_at_call 68
  refine (HM.out _).mono ?_
  rintro e w4 ⟨rfl, hb⟩
  clear qX0 fX0 qX1 fX1 qX2 fX2 qX3 fX3 zX qY0 fY0 qY1 fY1 qY2 fY2 qY3 fY3 zY qR0 fR0 qR1 fR1 qR2 fR2 qR3 fR3 zR qN0 fN0 qN1 fN1 qN2 fN2 qN3 fN3 zN
  have HX := Lib.hid (HX.out.below hb)
  have HY := Lib.hid (HY.out.below hb)
  have HR := Lib.hid (HR.out.below hb)
  have HN := Lib.hid (HN.out.below hb)
  have HB := Lib.hid (below_after hb HB.out)
  clear hb
  obtain ⟨⟨qX0, qX1, qX2, qX3⟩, ⟨fX0, fX1, fX2, fX3⟩, zX⟩ := HX.out
  obtain ⟨⟨qY0, qY1, qY2, qY3⟩, ⟨fY0, fY1, fY2, fY3⟩, zY⟩ := HY.out
  obtain ⟨⟨qR0, qR1, qR2, qR3⟩, ⟨fR0, fR1, fR2, fR3⟩, zR⟩ := HR.out
  obtain ⟨⟨qN0, qN1, qN2, qN3⟩, ⟨fN0, fN1, fN2, fN3⟩, zN⟩ := HN.out
  go_upto_region 7 with fail
  obtain ⟨GP, hGP⟩ : ∃ g, w4.heap.size = g := ⟨_, rfl⟩
  obtain ⟨w5, hw5⟩ : ∃ wx, wx = w4.alloc (.cells #[.int .i64 0, .int .i64 0, .int .i64 0, .int .i64 0] 26) := ⟨_, rfl⟩
  rw [← hw5, hGP]
  have HP : Hid (Bk4 w5 GP 0 0 0 0) := by rw [hw5, ← hGP]; exact bk4_new w4 0 0 0 0 _
  have le_P : w.heap.size ≤ GP := by rw [← hGP]; exact HB.out.size
  have ne_P_X : GP ≠ GX := by have := HX.out.2.2; omega
  have ne_X_P : GX ≠ GP := Ne.symm ne_P_X
  have ne_P_Y : GP ≠ GY := by have := HY.out.2.2; omega
  have ne_Y_P : GY ≠ GP := Ne.symm ne_P_Y
  have ne_P_R : GP ≠ GR := by have := HR.out.2.2; omega
  have ne_R_P : GR ≠ GP := Ne.symm ne_P_R
  have ne_P_N : GP ≠ GN := by have := HN.out.2.2; omega
  have ne_N_P : GN ≠ GP := Ne.symm ne_P_N
  clear qX0 fX0 qX1 fX1 qX2 fX2 qX3 fX3 zX qY0 fY0 qY1 fY1 qY2 fY2 qY3 fY3 zY qR0 fR0 qR1 fR1 qR2 fR2 qR3 fR3 zR qN0 fN0 qN1 fN1 qN2 fN2 qN3 fN3 zN
  have HX := Lib.hid (HX.out.below ((Below.refl _ _).alloc (Nat.le_refl _) (.cells #[.int .i64 0, .int .i64 0, .int .i64 0, .int .i64 0] 26)))
  have HY := Lib.hid (HY.out.below ((Below.refl _ _).alloc (Nat.le_refl _) (.cells #[.int .i64 0, .int .i64 0, .int .i64 0, .int .i64 0] 26)))
  have HR := Lib.hid (HR.out.below ((Below.refl _ _).alloc (Nat.le_refl _) (.cells #[.int .i64 0, .int .i64 0, .int .i64 0, .int .i64 0] 26)))
  have HN := Lib.hid (HN.out.below ((Below.refl _ _).alloc (Nat.le_refl _) (.cells #[.int .i64 0, .int .i64 0, .int .i64 0, .int .i64 0] 26)))
  have HB := Lib.hid (Below.alloc HB.out HB.out.size (.cells #[.int .i64 0, .int .i64 0, .int .i64 0, .int .i64 0] 26))
  rw [← hw5] at HX HY HR HN HB
  clear hw5 hGP
  obtain ⟨⟨qX0, qX1, qX2, qX3⟩, ⟨fX0, fX1, fX2, fX3⟩, zX⟩ := HX.out
  obtain ⟨⟨qY0, qY1, qY2, qY3⟩, ⟨fY0, fY1, fY2, fY3⟩, zY⟩ := HY.out
  obtain ⟨⟨qR0, qR1, qR2, qR3⟩, ⟨fR0, fR1, fR2, fR3⟩, zR⟩ := HR.out
  obtain ⟨⟨qN0, qN1, qN2, qN3⟩, ⟨fN0, fN1, fN2, fN3⟩, zN⟩ := HN.out
  obtain ⟨⟨qP0, qP1, qP2, qP3⟩, ⟨fP0, fP1, fP2, fP3⟩, zP⟩ := HP.out
  go_wp2_with fail
  refine bodyPost_ret (v := .tuple #[.agg #[.int .i64 0, .int .i64 0, .int .i64 0, .int .i64 0], .int .i64 3]) (by simp (maxDischargeDepth := 8) [results, Try.results26, go_sem, *]) rfl ?_
  have hb := HB.out
  exact ⟨rfl, by (repeat' (first | (with_reducible exact Below.refl _ _) | (with_reducible refine Below.alloc ?_ ?_ _) | (with_reducible refine Below.setCell ?_ ?_ _) | (with_reducible refine Below.drew ?_) | (with_reducible refine below_drewN ?_ _) | (with_reducible assumption) | (with_reducible refine below_after (by with_reducible assumption) ?_) | go_size))⟩
set_option maxHeartbeats 1600000 in
theorem impl_Conj_end (a b c d e f g h i j k l p q r s P Q R S x : Int) (w : World) (hm : isMx a b c d = true) (HI : Hid (∀ w, Calls Try.prog 67 #[.agg #[.int .i64 e, .int .i64 f, .int .i64 g, .int .i64 h]] w fun e w' => e = .returned (.tuple #[.agg #[.int .i64 i, .int .i64 j, .int .i64 k, .int .i64 l], .int .i64 0]) ∧ Below w.heap.size w w')) (HM : Hid (∀ w, Calls Try.prog 68 #[.agg #[.int .i64 i, .int .i64 j, .int .i64 k, .int .i64 l], .agg #[.int .i64 a, .int .i64 b, .int .i64 c, .int .i64 d]] w fun e w' => e = .returned (.tuple #[.agg #[.int .i64 p, .int .i64 q, .int .i64 r, .int .i64 s], .int .i64 0]) ∧ Below w.heap.size w w')) (HE : Hid (∀ w, Calls Try.prog 68 #[.agg #[.int .i64 p, .int .i64 q, .int .i64 r, .int .i64 s], .agg #[.int .i64 e, .int .i64 f, .int .i64 g, .int .i64 h]] w fun e w' => e = .returned (.tuple #[.agg #[.int .i64 P, .int .i64 Q, .int .i64 R, .int .i64 S], .int .i64 x]) ∧ Below w.heap.size w w')) : Calls Try.prog 26 #[.agg #[.int .i64 a, .int .i64 b, .int .i64 c, .int .i64 d], .agg #[.int .i64 e, .int .i64 f, .int .i64 g, .int .i64 h]] w fun e1 w' => e1 = .returned (.tuple #[.agg #[.int .i64 P, .int .i64 Q, .int .i64 R, .int .i64 S], .int .i64 x]) ∧ Below w.heap.size w w' := by
  obtain ⟨GX, hG⟩ : ∃ G, w.heap.size = G := ⟨_, rfl⟩
  have HG := Lib.hid hG
  go_enter Try.func26, Try.ntmps26
  go_upto_region 1 with fail
  obtain ⟨w0, hw0⟩ : ∃ w0, w0 = (((w.alloc (.cells #[.int .i64 a, .int .i64 b, .int .i64 c, .int .i64 d] 26)).alloc (.cells #[.int .i64 e, .int .i64 f, .int .i64 g, .int .i64 h] 26)).alloc (.cells #[.int .i64 0, .int .i64 0, .int .i64 0, .int .i64 0] 26)) := ⟨_, rfl⟩
  rw [← hw0]
  have HX : Hid (Bk4 w0 GX a b c d) := by
    have h := (bk4_new w a b c d 26).below (W' := (((w.alloc (.cells #[.int .i64 a, .int .i64 b, .int .i64 c, .int .i64 d] 26)).alloc (.cells #[.int .i64 e, .int .i64 f, .int .i64 g, .int .i64 h] 26)).alloc (.cells #[.int .i64 0, .int .i64 0, .int .i64 0, .int .i64 0] 26))) (by (repeat' (first | (with_reducible exact Below.refl _ _) | (with_reducible refine Below.alloc ?_ ?_ _) | (with_reducible refine Below.setCell ?_ ?_ _) | (with_reducible refine Below.drew ?_) | (with_reducible refine below_drewN ?_ _) | (with_reducible assumption) | (with_reducible refine below_after (by with_reducible assumption) ?_) | go_size)))
    (try simp only [World.size_alloc] at h)
    rw [hG] at h
    rw [hw0]; exact h
  have HY : Hid (Bk4 w0 (GX + 1) e f g h) := by
    have h := (bk4_new (w.alloc (.cells #[.int .i64 a, .int .i64 b, .int .i64 c, .int .i64 d] 26)) e f g h 26).below (W' := (((w.alloc (.cells #[.int .i64 a, .int .i64 b, .int .i64 c, .int .i64 d] 26)).alloc (.cells #[.int .i64 e, .int .i64 f, .int .i64 g, .int .i64 h] 26)).alloc (.cells #[.int .i64 0, .int .i64 0, .int .i64 0, .int .i64 0] 26))) (by (repeat' (first | (with_reducible exact Below.refl _ _) | (with_reducible refine Below.alloc ?_ ?_ _) | (with_reducible refine Below.setCell ?_ ?_ _) | (with_reducible refine Below.drew ?_) | (with_reducible refine below_drewN ?_ _) | (with_reducible assumption) | (with_reducible refine below_after (by with_reducible assumption) ?_) | go_size)))
    (try simp only [World.size_alloc] at h)
    rw [hG] at h
    rw [hw0]; exact h
  have HR : Hid (Bk4 w0 (GX + 1 + 1) 0 0 0 0) := by
    have h := (bk4_new ((w.alloc (.cells #[.int .i64 a, .int .i64 b, .int .i64 c, .int .i64 d] 26)).alloc (.cells #[.int .i64 e, .int .i64 f, .int .i64 g, .int .i64 h] 26)) 0 0 0 0 26).below (W' := (((w.alloc (.cells #[.int .i64 a, .int .i64 b, .int .i64 c, .int .i64 d] 26)).alloc (.cells #[.int .i64 e, .int .i64 f, .int .i64 g, .int .i64 h] 26)).alloc (.cells #[.int .i64 0, .int .i64 0, .int .i64 0, .int .i64 0] 26))) (by (repeat' (first | (with_reducible exact Below.refl _ _) | (with_reducible refine Below.alloc ?_ ?_ _) | (with_reducible refine Below.setCell ?_ ?_ _) | (with_reducible refine Below.drew ?_) | (with_reducible refine below_drewN ?_ _) | (with_reducible assumption) | (with_reducible refine below_after (by with_reducible assumption) ?_) | go_size)))
    (try simp only [World.size_alloc] at h)
    rw [hG] at h
    rw [hw0]; exact h
  have HB : Hid (Below w.heap.size w w0) := by show Below w.heap.size w w0; rw [hw0]; (repeat' (first | (with_reducible exact Below.refl _ _) | (with_reducible refine Below.alloc ?_ ?_ _) | (with_reducible refine Below.setCell ?_ ?_ _) | (with_reducible refine Below.drew ?_) | (with_reducible refine below_drewN ?_ _) | (with_reducible assumption) | (with_reducible refine below_after (by with_reducible assumption) ?_) | go_size))
  clear hw0
  obtain ⟨GR, hGR⟩ : ∃ g, GX + 1 + 1 = g := ⟨_, rfl⟩
  rw [hGR] at HR ⊢
  obtain ⟨GY, hGY⟩ : ∃ g, GX + 1 = g := ⟨_, rfl⟩
  rw [hGY] at HY ⊢
  have le_X : w.heap.size ≤ GX := by omega
  have le_Y : w.heap.size ≤ GY := by omega
  have ne_Y_X : GY ≠ GX := by omega
  have ne_X_Y : GX ≠ GY := by omega
  have le_R : w.heap.size ≤ GR := by omega
  have ne_R_X : GR ≠ GX := by omega
  have ne_X_R : GX ≠ GR := by omega
  have ne_R_Y : GR ≠ GY := by omega
  have ne_Y_R : GY ≠ GR := by omega
  clear hGY hGR
  obtain ⟨⟨qX0, qX1, qX2, qX3⟩, ⟨fX0, fX1, fX2, fX3⟩, zX⟩ := HX.out
  obtain ⟨⟨qY0, qY1, qY2, qY3⟩, ⟨fY0, fY1, fY2, fY3⟩, zY⟩ := HY.out
  obtain ⟨⟨qR0, qR1, qR2, qR3⟩, ⟨fR0, fR1, fR2, fR3⟩, zR⟩ := HR.out
  go_wp2_with fail
  go_at_call 54
  refine (impl_IsMatrix_any a b c d _).mono ?_
  rintro e w1 ⟨rfl, hb⟩
  clear qX0 fX0 qX1 fX1 qX2 fX2 qX3 fX3 zX qY0 fY0 qY1 fY1 qY2 fY2 qY3 fY3 zY qR0 fR0 qR1 fR1 qR2 fR2 qR3 fR3 zR
  have HX := Lib.hid (HX.out.below hb)
  have HY := Lib.hid (HY.out.below hb)
  have HR := Lib.hid (HR.out.below hb)
  have HB := Lib.hid (below_after hb HB.out)
  clear hb
  obtain ⟨⟨qX0, qX1, qX2, qX3⟩, ⟨fX0, fX1, fX2, fX3⟩, zX⟩ := HX.out
  obtain ⟨⟨qY0, qY1, qY2, qY3⟩, ⟨fY0, fY1, fY2, fY3⟩, zY⟩ := HY.out
  obtain ⟨⟨qR0, qR1, qR2, qR3⟩, ⟨fR0, fR1, fR2, fR3⟩, zR⟩ := HR.out
  go_wp2_with fail
  go_at_call 67
  refine (HI.out _).mono ?_
  rintro e w2 ⟨rfl, hb⟩
  clear qX0 fX0 qX1 fX1 qX2 fX2 qX3 fX3 zX qY0 fY0 qY1 fY1 qY2 fY2 qY3 fY3 zY qR0 fR0 qR1 fR1 qR2 fR2 qR3 fR3 zR
  have HX := Lib.hid (HX.out.below hb)
  have HY := Lib.hid (HY.out.below hb)
  have HR := Lib.hid (HR.out.below hb)
  have HB := Lib.hid (below_after hb HB.out)
  clear hb
  obtain ⟨⟨qX0, qX1, qX2, qX3⟩, ⟨fX0, fX1, fX2, fX3⟩, zX⟩ := HX.out
  obtain ⟨⟨qY0, qY1, qY2, qY3⟩, ⟨fY0, fY1, fY2, fY3⟩, zY⟩ := HY.out
  obtain ⟨⟨qR0, qR1, qR2, qR3⟩, ⟨fR0, fR1, fR2, fR3⟩, zR⟩ := HR.out
  go_upto_region 4 with fail
  obtain ⟨GN, hGN⟩ : ∃ g, w2.heap.size = g := ⟨_, rfl⟩
  obtain ⟨w3, hw3⟩ : ∃ wx, wx = w2.alloc (.cells #[.int .i64 i, .int .i64 j, .int .i64 k, .int .i64 l] 26) := ⟨_, rfl⟩
  rw [← hw3, hGN]
  have HN : Hid (Bk4 w3 GN i j k l) := by rw [hw3, ← hGN]; exact bk4_new w2 i j k l _
  have le_N : w.heap.size ≤ GN := by rw [← hGN]; exact HB.out.size
  have ne_N_X : GN ≠ GX := by have := HX.out.2.2; omega
  have ne_X_N : GX ≠ GN := Ne.symm ne_N_X
  have ne_N_Y : GN ≠ GY := by have := HY.out.2.2; omega
  have ne_Y_N : GY ≠ GN := Ne.symm ne_N_Y
  have ne_N_R : GN ≠ GR := by have := HR.out.2.2; omega
  have ne_R_N : GR ≠ GN := Ne.symm ne_N_R
  clear qX0 fX0 qX1 fX1 qX2 fX2 qX3 fX3 zX qY0 fY0 qY1 fY1 qY2 fY2 qY3 fY3 zY qR0 fR0 qR1 fR1 qR2 fR2 qR3 fR3 zR
  have HX := Lib.hid (HX.out.below ((Below.refl _ _).alloc (Nat.le_refl _) (.cells #[.int .i64 i, .int .i64 j, .int .i64 k, .int .i64 l] 26)))
  have HY := Lib.hid (HY.out.below ((Below.refl _ _).alloc (Nat.le_refl _) (.cells #[.int .i64 i, .int .i64 j, .int .i64 k, .int .i64 l] 26)))
  have HR := Lib.hid (HR.out.below ((Below.refl _ _).alloc (Nat.le_refl _) (.cells #[.int .i64 i, .int .i64 j, .int .i64 k, .int .i64 l] 26)))
  have HB := Lib.hid (Below.alloc HB.out HB.out.size (.cells #[.int .i64 i, .int .i64 j, .int .i64 k, .int .i64 l] 26))
  rw [← hw3] at HX HY HR HB
  clear hw3 hGN
  obtain ⟨⟨qX0, qX1, qX2, qX3⟩, ⟨fX0, fX1, fX2, fX3⟩, zX⟩ := HX.out
  obtain ⟨⟨qY0, qY1, qY2, qY3⟩, ⟨fY0, fY1, fY2, fY3⟩, zY⟩ := HY.out
  obtain ⟨⟨qR0, qR1, qR2, qR3⟩, ⟨fR0, fR1, fR2, fR3⟩, zR⟩ := HR.out
  obtain ⟨⟨qN0, qN1, qN2, qN3⟩, ⟨fN0, fN1, fN2, fN3⟩, zN⟩ := HN.out
  go_wp2_with fail
  go_at_call 68
  refine (HM.out _).mono ?_
  rintro e w4 ⟨rfl, hb⟩
  clear qX0 fX0 qX1 fX1 qX2 fX2 qX3 fX3 zX qY0 fY0 qY1 fY1 qY2 fY2 qY3 fY3 zY qR0 fR0 qR1 fR1 qR2 fR2 qR3 fR3 zR qN0 fN0 qN1 fN1 qN2 fN2 qN3 fN3 zN
  have HX := Lib.hid (HX.out.below hb)
  have HY := Lib.hid (HY.out.below hb)
  have HR := Lib.hid (HR.out.below hb)
  have HN := Lib.hid (HN.out.below hb)
  have HB := Lib.hid (below_after hb HB.out)
  clear hb
  obtain ⟨⟨qX0, qX1, qX2, qX3⟩, ⟨fX0, fX1, fX2, fX3⟩, zX⟩ := HX.out
  obtain ⟨⟨qY0, qY1, qY2, qY3⟩, ⟨fY0, fY1, fY2, fY3⟩, zY⟩ := HY.out
  obtain ⟨⟨qR0, qR1, qR2, qR3⟩, ⟨fR0, fR1, fR2, fR3⟩, zR⟩ := HR.out
  obtain ⟨⟨qN0, qN1, qN2, qN3⟩, ⟨fN0, fN1, fN2, fN3⟩, zN⟩ := HN.out
  go_upto_region 7 with fail
  obtain ⟨GP, hGP⟩ : ∃ g, w4.heap.size = g := ⟨_, rfl⟩
  obtain ⟨w5, hw5⟩ : ∃ wx, wx = w4.alloc (.cells #[.int .i64 p, .int .i64 q, .int .i64 r, .int .i64 s] 26) := ⟨_, rfl⟩
  rw [← hw5, hGP]
  have HP : Hid (Bk4 w5 GP p q r s) := by rw [hw5, ← hGP]; exact bk4_new w4 p q r s _
  have le_P : w.heap.size ≤ GP := by rw [← hGP]; exact HB.out.size
  have ne_P_X : GP ≠ GX := by have := HX.out.2.2; omega
  have ne_X_P : GX ≠ GP := Ne.symm ne_P_X
  have ne_P_Y : GP ≠ GY := by have := HY.out.2.2; omega
  have ne_Y_P : GY ≠ GP := Ne.symm ne_P_Y
  have ne_P_R : GP ≠ GR := by have := HR.out.2.2; omega
  have ne_R_P : GR ≠ GP := Ne.symm ne_P_R
  have ne_P_N : GP ≠ GN := by have := HN.out.2.2; omega
  have ne_N_P : GN ≠ GP := Ne.symm ne_P_N
  clear qX0 fX0 qX1 fX1 qX2 fX2 qX3 fX3 zX qY0 fY0 qY1 fY1 qY2 fY2 qY3 fY3 zY qR0 fR0 qR1 fR1 qR2 fR2 qR3 fR3 zR qN0 fN0 qN1 fN1 qN2 fN2 qN3 fN3 zN
  have HX := Lib.hid (HX.out.below ((Below.refl _ _).alloc (Nat.le_refl _) (.cells #[.int .i64 p, .int .i64 q, .int .i64 r, .int .i64 s] 26)))
  have HY := Lib.hid (HY.out.below ((Below.refl _ _).alloc (Nat.le_refl _) (.cells #[.int .i64 p, .int .i64 q, .int .i64 r, .int .i64 s] 26)))
  have HR := Lib.hid (HR.out.below ((Below.refl _ _).alloc (Nat.le_refl _) (.cells #[.int .i64 p, .int .i64 q, .int .i64 r, .int .i64 s] 26)))
  have HN := Lib.hid (HN.out.below ((Below.refl _ _).alloc (Nat.le_refl _) (.cells #[.int .i64 p, .int .i64 q, .int .i64 r, .int .i64 s] 26)))
  have HB := Lib.hid (Below.alloc HB.out HB.out.size (.cells #[.int .i64 p, .int .i64 q, .int .i64 r, .int .i64 s] 26))
  rw [← hw5] at HX HY HR HN HB
  clear hw5 hGP
  obtain ⟨⟨qX0, qX1, qX2, qX3⟩, ⟨fX0, fX1, fX2, fX3⟩, zX⟩ := HX.out
  obtain ⟨⟨qY0, qY1, qY2, qY3⟩, ⟨fY0, fY1, fY2, fY3⟩, zY⟩ := HY.out
  obtain ⟨⟨qR0, qR1, qR2, qR3⟩, ⟨fR0, fR1, fR2, fR3⟩, zR⟩ := HR.out
  obtain ⟨⟨qN0, qN1, qN2, qN3⟩, ⟨fN0, fN1, fN2, fN3⟩, zN⟩ := HN.out
  obtain ⟨⟨qP0, qP1, qP2, qP3⟩, ⟨fP0, fP1, fP2, fP3⟩, zP⟩ := HP.out
  go_wp2_with fail
  go_at_call 68
  refine (HE.out _).mono ?_
  rintro e w6 ⟨rfl, hb⟩
  clear qX0 fX0 qX1 fX1 qX2 fX2 qX3 fX3 zX qY0 fY0 qY1 fY1 qY2 fY2 qY3 fY3 zY qR0 fR0 qR1 fR1 qR2 fR2 qR3 fR3 zR qN0 fN0 qN1 fN1 qN2 fN2 qN3 fN3 zN qP0 fP0 qP1 fP1 qP2 fP2 qP3 fP3 zP
  have HX := Lib.hid (HX.out.below hb)
  have HY := Lib.hid (HY.out.below hb)
  have HR := Lib.hid (HR.out.below hb)
  have HN := Lib.hid (HN.out.below hb)
  have HP := Lib.hid (HP.out.below hb)
  have HB := Lib.hid (below_after hb HB.out)
  clear hb
  obtain ⟨⟨qX0, qX1, qX2, qX3⟩, ⟨fX0, fX1, fX2, fX3⟩, zX⟩ := HX.out
  obtain ⟨⟨qY0, qY1, qY2, qY3⟩, ⟨fY0, fY1, fY2, fY3⟩, zY⟩ := HY.out
  obtain ⟨⟨qR0, qR1, qR2, qR3⟩, ⟨fR0, fR1, fR2, fR3⟩, zR⟩ := HR.out
  obtain ⟨⟨qN0, qN1, qN2, qN3⟩, ⟨fN0, fN1, fN2, fN3⟩, zN⟩ := HN.out
  obtain ⟨⟨qP0, qP1, qP2, qP3⟩, ⟨fP0, fP1, fP2, fP3⟩, zP⟩ := HP.out
  go_wp2_with fail
  refine bodyPost_ret (v := .tuple #[.agg #[.int .i64 P, .int .i64 Q, .int .i64 R, .int .i64 S], .int .i64 x]) (by simp (maxDischargeDepth := 8) [results, Try.results26, go_sem, *]) rfl ?_
  have hb := HB.out
  exact ⟨rfl, by (repeat' (first | (with_reducible exact Below.refl _ _) | (with_reducible refine Below.alloc ?_ ?_ _) | (with_reducible refine Below.setCell ?_ ?_ _) | (with_reducible refine Below.drew ?_) | (with_reducible refine below_drewN ?_ _) | (with_reducible assumption) | (with_reducible refine below_after (by with_reducible assumption) ?_) | go_size))⟩
theorem spec_Conj_no (a b c d e f g h : Int) (w : World) (hm : (isMx a b c d && isMx e f g h) = false) : Calls Try.prog 25 #[.agg #[.int .i64 a, .int .i64 b, .int .i64 c, .int .i64 d], .agg #[.int .i64 e, .int .i64 f, .int .i64 g, .int .i64 h]] w fun e1 w' => e1 = .returned (.tuple #[.agg #[.int .i64 0, .int .i64 0, .int .i64 0, .int .i64 0], .int .i64 1]) ∧ Below w.heap.size w w' := by
  cases h0 : isMx a b c d
  · clear hm
    obtain ⟨GX, hG⟩ : ∃ G, w.heap.size = G := ⟨_, rfl⟩
    have HG := Lib.hid hG
    go_enter Try.func25, Try.ntmps25
    go_upto_region 1 with fail
    obtain ⟨w0, hw0⟩ : ∃ w0, w0 = (((w.alloc (.cells #[.int .i64 a, .int .i64 b, .int .i64 c, .int .i64 d] 26)).alloc (.cells #[.int .i64 e, .int .i64 f, .int .i64 g, .int .i64 h] 26)).alloc (.cells #[.int .i64 0, .int .i64 0, .int .i64 0, .int .i64 0] 26)) := ⟨_, rfl⟩
    rw [← hw0]
    have HX : Hid (Bk4 w0 GX a b c d) := by
      have h := (bk4_new w a b c d 26).below (W' := (((w.alloc (.cells #[.int .i64 a, .int .i64 b, .int .i64 c, .int .i64 d] 26)).alloc (.cells #[.int .i64 e, .int .i64 f, .int .i64 g, .int .i64 h] 26)).alloc (.cells #[.int .i64 0, .int .i64 0, .int .i64 0, .int .i64 0] 26))) (by (repeat' (first | (with_reducible exact Below.refl _ _) | (with_reducible refine Below.alloc ?_ ?_ _) | (with_reducible refine Below.setCell ?_ ?_ _) | (with_reducible refine Below.drew ?_) | (with_reducible refine below_drewN ?_ _) | (with_reducible assumption) | (with_reducible refine below_after (by with_reducible assumption) ?_) | go_size)))
      (try simp only [World.size_alloc] at h)
      rw [hG] at h
      rw [hw0]; exact h
    have HY : Hid (Bk4 w0 (GX + 1) e f g h) := by
      have h := (bk4_new (w.alloc (.cells #[.int .i64 a, .int .i64 b, .int .i64 c, .int .i64 d] 26)) e f g h 26).below (W' := (((w.alloc (.cells #[.int .i64 a, .int .i64 b, .int .i64 c, .int .i64 d] 26)).alloc (.cells #[.int .i64 e, .int .i64 f, .int .i64 g, .int .i64 h] 26)).alloc (.cells #[.int .i64 0, .int .i64 0, .int .i64 0, .int .i64 0] 26))) (by (repeat' (first | (with_reducible exact Below.refl _ _) | (with_reducible refine Below.alloc ?_ ?_ _) | (with_reducible refine Below.setCell ?_ ?_ _) | (with_reducible refine Below.drew ?_) | (with_reducible refine below_drewN ?_ _) | (with_reducible assumption) | (with_reducible refine below_after (by with_reducible assumption) ?_) | go_size)))
      (try simp only [World.size_alloc] at h)
      rw [hG] at h
      rw [hw0]; exact h
    have HR : Hid (Bk4 w0 (GX + 1 + 1) 0 0 0 0) := by
      have h := (bk4_new ((w.alloc (.cells #[.int .i64 a, .int .i64 b, .int .i64 c, .int .i64 d] 26)).alloc (.cells #[.int .i64 e, .int .i64 f, .int .i64 g, .int .i64 h] 26)) 0 0 0 0 26).below (W' := (((w.alloc (.cells #[.int .i64 a, .int .i64 b, .int .i64 c, .int .i64 d] 26)).alloc (.cells #[.int .i64 e, .int .i64 f, .int .i64 g, .int .i64 h] 26)).alloc (.cells #[.int .i64 0, .int .i64 0, .int .i64 0, .int .i64 0] 26))) (by (repeat' (first | (with_reducible exact Below.refl _ _) | (with_reducible refine Below.alloc ?_ ?_ _) | (with_reducible refine Below.setCell ?_ ?_ _) | (with_reducible refine Below.drew ?_) | (with_reducible refine below_drewN ?_ _) | (with_reducible assumption) | (with_reducible refine below_after (by with_reducible assumption) ?_) | go_size)))
      (try simp only [World.size_alloc] at h)
      rw [hG] at h
      rw [hw0]; exact h
    have HB : Hid (Below w.heap.size w w0) := by show Below w.heap.size w w0; rw [hw0]; (repeat' (first | (with_reducible exact Below.refl _ _) | (with_reducible refine Below.alloc ?_ ?_ _) | (with_reducible refine Below.setCell ?_ ?_ _) | (with_reducible refine Below.drew ?_) | (with_reducible refine below_drewN ?_ _) | (with_reducible assumption) | (with_reducible refine below_after (by with_reducible assumption) ?_) | go_size))
    clear hw0
    obtain ⟨GR, hGR⟩ : ∃ g, GX + 1 + 1 = g := ⟨_, rfl⟩
    rw [hGR] at HR ⊢
    obtain ⟨GY, hGY⟩ : ∃ g, GX + 1 = g := ⟨_, rfl⟩
    rw [hGY] at HY ⊢
    have le_X : w.heap.size ≤ GX := by omega
    have le_Y : w.heap.size ≤ GY := by omega
    have ne_Y_X : GY ≠ GX := by omega
    have ne_X_Y : GX ≠ GY := by omega
    have le_R : w.heap.size ≤ GR := by omega
    have ne_R_X : GR ≠ GX := by omega
    have ne_X_R : GX ≠ GR := by omega
    have ne_R_Y : GR ≠ GY := by omega
    have ne_Y_R : GY ≠ GR := by omega
    clear hGY hGR
    obtain ⟨⟨qX0, qX1, qX2, qX3⟩, ⟨fX0, fX1, fX2, fX3⟩, zX⟩ := HX.out
    obtain ⟨⟨qY0, qY1, qY2, qY3⟩, ⟨fY0, fY1, fY2, fY3⟩, zY⟩ := HY.out
    obtain ⟨⟨qR0, qR1, qR2, qR3⟩, ⟨fR0, fR1, fR2, fR3⟩, zR⟩ := HR.out
    go_wp2_with fail
    go_at_call 51
    refine (l01Matrix_any a b c d _).mono ?_
    rintro e w1 ⟨rfl, hb⟩
    clear qX0 fX0 qX1 fX1 qX2 fX2 qX3 fX3 zX qY0 fY0 qY1 fY1 qY2 fY2 qY3 fY3 zY qR0 fR0 qR1 fR1 qR2 fR2 qR3 fR3 zR
    have HX := Lib.hid (HX.out.below hb)
    have HY := Lib.hid (HY.out.below hb)
    have HR := Lib.hid (HR.out.below hb)
    have HB := Lib.hid (below_after hb HB.out)
    clear hb
    obtain ⟨⟨qX0, qX1, qX2, qX3⟩, ⟨fX0, fX1, fX2, fX3⟩, zX⟩ := HX.out
    obtain ⟨⟨qY0, qY1, qY2, qY3⟩, ⟨fY0, fY1, fY2, fY3⟩, zY⟩ := HY.out
    obtain ⟨⟨qR0, qR1, qR2, qR3⟩, ⟨fR0, fR1, fR2, fR3⟩, zR⟩ := HR.out
    go_wp2_with fail
    refine bodyPost_ret (v := .tuple #[.agg #[.int .i64 0, .int .i64 0, .int .i64 0, .int .i64 0], .int .i64 1]) (by simp (maxDischargeDepth := 8) [results, Try.results25, go_sem, *]) rfl ?_
    have hb := HB.out
    exact ⟨rfl, by (repeat' (first | (with_reducible exact Below.refl _ _) | (with_reducible refine Below.alloc ?_ ?_ _) | (with_reducible refine Below.setCell ?_ ?_ _) | (with_reducible refine Below.drew ?_) | (with_reducible refine below_drewN ?_ _) | (with_reducible assumption) | (with_reducible refine below_after (by with_reducible assumption) ?_) | go_size))⟩
  · have h1 : isMx e f g h = false := by rw [h0, Bool.true_and] at hm; exact hm
    clear hm
    obtain ⟨GX, hG⟩ : ∃ G, w.heap.size = G := ⟨_, rfl⟩
    have HG := Lib.hid hG
    go_enter Try.func25, Try.ntmps25
    go_upto_region 1 with fail
    obtain ⟨w0, hw0⟩ : ∃ w0, w0 = (((w.alloc (.cells #[.int .i64 a, .int .i64 b, .int .i64 c, .int .i64 d] 26)).alloc (.cells #[.int .i64 e, .int .i64 f, .int .i64 g, .int .i64 h] 26)).alloc (.cells #[.int .i64 0, .int .i64 0, .int .i64 0, .int .i64 0] 26)) := ⟨_, rfl⟩
    rw [← hw0]
    have HX : Hid (Bk4 w0 GX a b c d) := by
      have h := (bk4_new w a b c d 26).below (W' := (((w.alloc (.cells #[.int .i64 a, .int .i64 b, .int .i64 c, .int .i64 d] 26)).alloc (.cells #[.int .i64 e, .int .i64 f, .int .i64 g, .int .i64 h] 26)).alloc (.cells #[.int .i64 0, .int .i64 0, .int .i64 0, .int .i64 0] 26))) (by (repeat' (first | (with_reducible exact Below.refl _ _) | (with_reducible refine Below.alloc ?_ ?_ _) | (with_reducible refine Below.setCell ?_ ?_ _) | (with_reducible refine Below.drew ?_) | (with_reducible refine below_drewN ?_ _) | (with_reducible assumption) | (with_reducible refine below_after (by with_reducible assumption) ?_) | go_size)))
      (try simp only [World.size_alloc] at h)
      rw [hG] at h
      rw [hw0]; exact h
    have HY : Hid (Bk4 w0 (GX + 1) e f g h) := by
      have h := (bk4_new (w.alloc (.cells #[.int .i64 a, .int .i64 b, .int .i64 c, .int .i64 d] 26)) e f g h 26).below (W' := (((w.alloc (.cells #[.int .i64 a, .int .i64 b, .int .i64 c, .int .i64 d] 26)).alloc (.cells #[.int .i64 e, .int .i64 f, .int .i64 g, .int .i64 h] 26)).alloc (.cells #[.int .i64 0, .int .i64 0, .int .i64 0, .int .i64 0] 26))) (by (repeat' (first | (with_reducible exact Below.refl _ _) | (with_reducible refine Below.alloc ?_ ?_ _) | (with_reducible refine Below.setCell ?_ ?_ _) | (with_reducible refine Below.drew ?_) | (with_reducible refine below_drewN ?_ _) | (with_reducible assumption) | (with_reducible refine below_after (by with_reducible assumption) ?_) | go_size)))
      (try simp only [World.size_alloc] at h)
      rw [hG] at h
      rw [hw0]; exact h
    have HR : Hid (Bk4 w0 (GX + 1 + 1) 0 0 0 0) := by
      have h := (bk4_new ((w.alloc (.cells #[.int .i64 a, .int .i64 b, .int .i64 c, .int .i64 d] 26)).alloc (.cells #[.int .i64 e, .int .i64 f, .int .i64 g, .int .i64 h] 26)) 0 0 0 0 26).below (W' := (((w.alloc (.cells #[.int .i64 a, .int .i64 b, .int .i64 c, .int .i64 d] 26)).alloc (.cells #[.int .i64 e, .int .i64 f, .int .i64 g, .int .i64 h] 26)).alloc (.cells #[.int .i64 0, .int .i64 0, .int .i64 0, .int .i64 0] 26))) (by (repeat' (first | (with_reducible exact Below.refl _ _) | (with_reducible refine Below.alloc ?_ ?_ _) | (with_reducible refine Below.setCell ?_ ?_ _) | (with_reducible refine Below.drew ?_) | (with_reducible refine below_drewN ?_ _) | (with_reducible assumption) | (with_reducible refine below_after (by with_reducible assumption) ?_) | go_size)))
      (try simp only [World.size_alloc] at h)
      rw [hG] at h
      rw [hw0]; exact h
    have HB : Hid (Below w.heap.size w w0) := by show Below w.heap.size w w0; rw [hw0]; (repeat' (first | (with_reducible exact Below.refl _ _) | (with_reducible refine Below.alloc ?_ ?_ _) | (with_reducible refine Below.setCell ?_ ?_ _) | (with_reducible refine Below.drew ?_) | (with_reducible refine below_drewN ?_ _) | (with_reducible assumption) | (with_reducible refine below_after (by with_reducible assumption) ?_) | go_size))
    clear hw0
    obtain ⟨GR, hGR⟩ : ∃ g, GX + 1 + 1 = g := ⟨_, rfl⟩
    rw [hGR] at HR ⊢
    obtain ⟨GY, hGY⟩ : ∃ g, GX + 1 = g := ⟨_, rfl⟩
    rw [hGY] at HY ⊢
    have le_X : w.heap.size ≤ GX := by omega
    have le_Y : w.heap.size ≤ GY := by omega
    have ne_Y_X : GY ≠ GX := by omega
    have ne_X_Y : GX ≠ GY := by omega
    have le_R : w.heap.size ≤ GR := by omega
    have ne_R_X : GR ≠ GX := by omega
    have ne_X_R : GX ≠ GR := by omega
    have ne_R_Y : GR ≠ GY := by omega
    have ne_Y_R : GY ≠ GR := by omega
    clear hGY hGR
    obtain ⟨⟨qX0, qX1, qX2, qX3⟩, ⟨fX0, fX1, fX2, fX3⟩, zX⟩ := HX.out
    obtain ⟨⟨qY0, qY1, qY2, qY3⟩, ⟨fY0, fY1, fY2, fY3⟩, zY⟩ := HY.out
    obtain ⟨⟨qR0, qR1, qR2, qR3⟩, ⟨fR0, fR1, fR2, fR3⟩, zR⟩ := HR.out
    go_wp2_with fail
    go_at_call 51
    refine (l01Matrix_any a b c d _).mono ?_
    rintro e w1 ⟨rfl, hb⟩
    clear qX0 fX0 qX1 fX1 qX2 fX2 qX3 fX3 zX qY0 fY0 qY1 fY1 qY2 fY2 qY3 fY3 zY qR0 fR0 qR1 fR1 qR2 fR2 qR3 fR3 zR
    have HX := Lib.hid (HX.out.below hb)
    have HY := Lib.hid (HY.out.below hb)
    have HR := Lib.hid (HR.out.below hb)
    have HB := Lib.hid (below_after hb HB.out)
    clear hb
    obtain ⟨⟨qX0, qX1, qX2, qX3⟩, ⟨fX0, fX1, fX2, fX3⟩, zX⟩ := HX.out
    obtain ⟨⟨qY0, qY1, qY2, qY3⟩, ⟨fY0, fY1, fY2, fY3⟩, zY⟩ := HY.out
    obtain ⟨⟨qR0, qR1, qR2, qR3⟩, ⟨fR0, fR1, fR2, fR3⟩, zR⟩ := HR.out
    go_wp2_with fail
    go_at_call 51
    refine (l01Matrix_any e f g h _).mono ?_
    rintro e w2 ⟨rfl, hb⟩
    clear qX0 fX0 qX1 fX1 qX2 fX2 qX3 fX3 zX qY0 fY0 qY1 fY1 qY2 fY2 qY3 fY3 zY qR0 fR0 qR1 fR1 qR2 fR2 qR3 fR3 zR
    have HX := Lib.hid (HX.out.below hb)
    have HY := Lib.hid (HY.out.below hb)
    have HR := Lib.hid (HR.out.below hb)
    have HB := Lib.hid (below_after hb HB.out)
    clear hb
    obtain ⟨⟨qX0, qX1, qX2, qX3⟩, ⟨fX0, fX1, fX2, fX3⟩, zX⟩ := HX.out
    obtain ⟨⟨qY0, qY1, qY2, qY3⟩, ⟨fY0, fY1, fY2, fY3⟩, zY⟩ := HY.out
    obtain ⟨⟨qR0, qR1, qR2, qR3⟩, ⟨fR0, fR1, fR2, fR3⟩, zR⟩ := HR.out
    go_wp2_with fail
    refine bodyPost_ret (v := .tuple #[.agg #[.int .i64 0, .int .i64 0, .int .i64 0, .int .i64 0], .int .i64 1]) (by simp (maxDischargeDepth := 8) [results, Try.results25, go_sem, *]) rfl ?_
    have hb := HB.out
    exact ⟨rfl, by (repeat' (first | (with_reducible exact Below.refl _ _) | (with_reducible refine Below.alloc ?_ ?_ _) | (with_reducible refine Below.setCell ?_ ?_ _) | (with_reducible refine Below.drew ?_) | (with_reducible refine below_drewN ?_ _) | (with_reducible assumption) | (with_reducible refine below_after (by with_reducible assumption) ?_) | go_size))⟩
theorem spec_Conj_state (a b c d e f g h : Int) (w : World) (hm : isMx a b c d = true) (h1 : isMx e f g h = true) (HU : Hid (∀ w, Calls Try.prog 64 #[.agg #[.int .i64 e, .int .i64 f, .int .i64 g, .int .i64 h]] w fun e w' => e = .returned (.bool false) ∧ Below w.heap.size w w')) : Calls Try.prog 25 #[.agg #[.int .i64 a, .int .i64 b, .int .i64 c, .int .i64 d], .agg #[.int .i64 e, .int .i64 f, .int .i64 g, .int .i64 h]] w fun e1 w' => e1 = .returned (.tuple #[.agg #[.int .i64 0, .int .i64 0, .int .i64 0, .int .i64 0], .int .i64 5]) ∧ Below w.heap.size w w' := by
  obtain ⟨GX, hG⟩ : ∃ G, w.heap.size = G := ⟨_, rfl⟩
  have HG := Lib.hid hG
  go_enter Try.func25, Try.ntmps25
  go_upto_region 1 with fail
  obtain ⟨w0, hw0⟩ : ∃ w0, w0 = (((w.alloc (.cells #[.int .i64 a, .int .i64 b, .int .i64 c, .int .i64 d] 26)).alloc (.cells #[.int .i64 e, .int .i64 f, .int .i64 g, .int .i64 h] 26)).alloc (.cells #[.int .i64 0, .int .i64 0, .int .i64 0, .int .i64 0] 26)) := ⟨_, rfl⟩
  rw [← hw0]
  have HX : Hid (Bk4 w0 GX a b c d) := by
    have h := (bk4_new w a b c d 26).below (W' := (((w.alloc (.cells #[.int .i64 a, .int .i64 b, .int .i64 c, .int .i64 d] 26)).alloc (.cells #[.int .i64 e, .int .i64 f, .int .i64 g, .int .i64 h] 26)).alloc (.cells #[.int .i64 0, .int .i64 0, .int .i64 0, .int .i64 0] 26))) (by (repeat' (first | (with_reducible exact Below.refl _ _) | (with_reducible refine Below.alloc ?_ ?_ _) | (with_reducible refine Below.setCell ?_ ?_ _) | (with_reducible refine Below.drew ?_) | (with_reducible refine below_drewN ?_ _) | (with_reducible assumption) | (with_reducible refine below_after (by with_reducible assumption) ?_) | go_size)))
    (try simp only [World.size_alloc] at h)
    rw [hG] at h
    rw [hw0]; exact h
  have HY : Hid (Bk4 w0 (GX + 1) e f g h) := by
    have h := (bk4_new (w.alloc (.cells #[.int .i64 a, .int .i64 b, .int .i64 c, .int .i64 d] 26)) e f g h 26).below (W' := (((w.alloc (.cells #[.int .i64 a, .int .i64 b, .int .i64 c, .int .i64 d] 26)).alloc (.cells #[.int .i64 e, .int .i64 f, .int .i64 g, .int .i64 h] 26)).alloc (.cells #[.int .i64 0, .int .i64 0, .int .i64 0, .int .i64 0] 26))) (by (repeat' (first | (with_reducible exact Below.refl _ _) | (with_reducible refine Below.alloc ?_ ?_ _) | (with_reducible refine Below.setCell ?_ ?_ _) | (with_reducible refine Below.drew ?_) | (with_reducible refine below_drewN ?_ _) | (with_reducible assumption) | (with_reducible refine below_after (by with_reducible assumption) ?_) | go_size)))
    (try simp only [World.size_alloc] at h)
    rw [hG] at h
    rw [hw0]; exact h
  have HR : Hid (Bk4 w0 (GX + 1 + 1) 0 0 0 0) := by
    have h := (bk4_new ((w.alloc (.cells #[.int .i64 a, .int .i64 b, .int .i64 c, .int .i64 d] 26)).alloc (.cells #[.int .i64 e, .int .i64 f, .int .i64 g, .int .i64 h] 26)) 0 0 0 0 26).below (W' := (((w.alloc (.cells #[.int .i64 a, .int .i64 b, .int .i64 c, .int .i64 d] 26)).alloc (.cells #[.int .i64 e, .int .i64 f, .int .i64 g, .int .i64 h] 26)).alloc (.cells #[.int .i64 0, .int .i64 0, .int .i64 0, .int .i64 0] 26))) (by (repeat' (first | (with_reducible exact Below.refl _ _) | (with_reducible refine Below.alloc ?_ ?_ _) | (with_reducible refine Below.setCell ?_ ?_ _) | (with_reducible refine Below.drew ?_) | (with_reducible refine below_drewN ?_ _) | (with_reducible assumption) | (with_reducible refine below_after (by with_reducible assumption) ?_) | go_size)))
    (try simp only [World.size_alloc] at h)
    rw [hG] at h
    rw [hw0]; exact h
  have HB : Hid (Below w.heap.size w w0) := by show Below w.heap.size w w0; rw [hw0]; (repeat' (first | (with_reducible exact Below.refl _ _) | (with_reducible refine Below.alloc ?_ ?_ _) | (with_reducible refine Below.setCell ?_ ?_ _) | (with_reducible refine Below.drew ?_) | (with_reducible refine below_drewN ?_ _) | (with_reducible assumption) | (with_reducible refine below_after (by with_reducible assumption) ?_) | go_size))
  clear hw0
  obtain ⟨GR, hGR⟩ : ∃ g, GX + 1 + 1 = g := ⟨_, rfl⟩
  rw [hGR] at HR ⊢
  obtain ⟨GY, hGY⟩ : ∃ g, GX + 1 = g := ⟨_, rfl⟩
  rw [hGY] at HY ⊢
  have le_X : w.heap.size ≤ GX := by omega
  have le_Y : w.heap.size ≤ GY := by omega
  have ne_Y_X : GY ≠ GX := by omega
  have ne_X_Y : GX ≠ GY := by omega
  have le_R : w.heap.size ≤ GR := by omega
  have ne_R_X : GR ≠ GX := by omega
  have ne_X_R : GX ≠ GR := by omega
  have ne_R_Y : GR ≠ GY := by omega
  have ne_Y_R : GY ≠ GR := by omega
  clear hGY hGR
  obtain ⟨⟨qX0, qX1, qX2, qX3⟩, ⟨fX0, fX1, fX2, fX3⟩, zX⟩ := HX.out
  obtain ⟨⟨qY0, qY1, qY2, qY3⟩, ⟨fY0, fY1, fY2, fY3⟩, zY⟩ := HY.out
  obtain ⟨⟨qR0, qR1, qR2, qR3⟩, ⟨fR0, fR1, fR2, fR3⟩, zR⟩ := HR.out
  go_wp2_with fail
  go_at_call 51
  refine (l01Matrix_any a b c d _).mono ?_
  rintro e w1 ⟨rfl, hb⟩
  clear qX0 fX0 qX1 fX1 qX2 fX2 qX3 fX3 zX qY0 fY0 qY1 fY1 qY2 fY2 qY3 fY3 zY qR0 fR0 qR1 fR1 qR2 fR2 qR3 fR3 zR
  have HX := Lib.hid (HX.out.below hb)
  have HY := Lib.hid (HY.out.below hb)
  have HR := Lib.hid (HR.out.below hb)
  have HB := Lib.hid (below_after hb HB.out)
  clear hb
  obtain ⟨⟨qX0, qX1, qX2, qX3⟩, ⟨fX0, fX1, fX2, fX3⟩, zX⟩ := HX.out
  obtain ⟨⟨qY0, qY1, qY2, qY3⟩, ⟨fY0, fY1, fY2, fY3⟩, zY⟩ := HY.out
  obtain ⟨⟨qR0, qR1, qR2, qR3⟩, ⟨fR0, fR1, fR2, fR3⟩, zR⟩ := HR.out
  go_wp2_with fail
  go_at_call 51
  refine (l01Matrix_any e f g h _).mono ?_
  rintro e w2 ⟨rfl, hb⟩
  clear qX0 fX0 qX1 fX1 qX2 fX2 qX3 fX3 zX qY0 fY0 qY1 fY1 qY2 fY2 qY3 fY3 zY qR0 fR0 qR1 fR1 qR2 fR2 qR3 fR3 zR
  have HX := Lib.hid (HX.out.below hb)
  have HY := Lib.hid (HY.out.below hb)
  have HR := Lib.hid (HR.out.below hb)
  have HB := Lib.hid (below_after hb HB.out)
  clear hb
  obtain ⟨⟨qX0, qX1, qX2, qX3⟩, ⟨fX0, fX1, fX2, fX3⟩, zX⟩ := HX.out
  obtain ⟨⟨qY0, qY1, qY2, qY3⟩, ⟨fY0, fY1, fY2, fY3⟩, zY⟩ := HY.out
  obtain ⟨⟨qR0, qR1, qR2, qR3⟩, ⟨fR0, fR1, fR2, fR3⟩, zR⟩ := HR.out
  go_wp2_with fail
  go_at_call 64
  refine (HU.out _).mono ?_
  rintro e w3 ⟨rfl, hb⟩
  clear qX0 fX0 qX1 fX1 qX2 fX2 qX3 fX3 zX qY0 fY0 qY1 fY1 qY2 fY2 qY3 fY3 zY qR0 fR0 qR1 fR1 qR2 fR2 qR3 fR3 zR
  have HX := Lib.hid (HX.out.below hb)
  have HY := Lib.hid (HY.out.below hb)
  have HR := Lib.hid (HR.out.below hb)
  have HB := Lib.hid (below_after hb HB.out)
  clear hb
  obtain ⟨⟨qX0, qX1, qX2, qX3⟩, ⟨fX0, fX1, fX2, fX3⟩, zX⟩ := HX.out
  obtain ⟨⟨qY0, qY1, qY2, qY3⟩, ⟨fY0, fY1, fY2, fY3⟩, zY⟩ := HY.out
  obtain ⟨⟨qR0, qR1, qR2, qR3⟩, ⟨fR0, fR1, fR2, fR3⟩, zR⟩ := HR.out
  go_wp2_with fail
  refine bodyPost_ret (v := .tuple #[.agg #[.int .i64 0, .int .i64 0, .int .i64 0, .int .i64 0], .int .i64 5]) (by simp (maxDischargeDepth := 8) [results, Try.results25, go_sem, *]) rfl ?_
  have hb := HB.out
  exact ⟨rfl, by (repeat' (first | (with_reducible exact Below.refl _ _) | (with_reducible refine Below.alloc ?_ ?_ _) | (with_reducible refine Below.setCell ?_ ?_ _) | (with_reducible refine Below.drew ?_) | (with_reducible refine below_drewN ?_ _) | (with_reducible assumption) | (with_reducible refine below_after (by with_reducible assumption) ?_) | go_size))⟩
set_option maxHeartbeats 3200000 in
theorem spec_Conj_lim (a b c d e f g h i j k l p q r s : Int) (w : World) (hm : isMx a b c d = true) (h1 : isMx e f g h = true) (h2 : isMx p q r s = false) (HU : Hid (∀ w, Calls Try.prog 64 #[.agg #[.int .i64 e, .int .i64 f, .int .i64 g, .int .i64 h]] w fun e w' => e = .returned (.bool true) ∧ Below w.heap.size w w')) (HI : Hid (∀ w, Calls Try.prog 66 #[.agg #[.int .i64 e, .int .i64 f, .int .i64 g, .int .i64 h]] w fun e w' => e = .returned (.agg #[.int .i64 i, .int .i64 j, .int .i64 k, .int .i64 l]) ∧ Below w.heap.size w w')) (HM : Hid (∀ w, Calls Try.prog 65 #[.agg #[.int .i64 i, .int .i64 j, .int .i64 k, .int .i64 l], .agg #[.int .i64 a, .int .i64 b, .int .i64 c, .int .i64 d]] w fun e w' => e = .returned (.agg #[.int .i64 p, .int .i64 q, .int .i64 r, .int .i64 s]) ∧ Below w.heap.size w w')) : Calls Try.prog 25 #[.agg #[.int .i64 a, .int .i64 b, .int .i64 c, .int .i64 d], .agg #[.int .i64 e, .int .i64 f, .int .i64 g, .int .i64 h]] w fun e1 w' => e1 = .returned (.tuple #[.agg #[.int .i64 0, .int .i64 0, .int .i64 0, .int .i64 0], .int .i64 3]) ∧ Below w.heap.size w w' := by
  obtain ⟨GX, hG⟩ : ∃ G, w.heap.size = G := ⟨_, rfl⟩
  have HG := Lib.hid hG
  go_enter Try.func25, Try.ntmps25
  go_upto_region 1 with fail
  obtain ⟨w0, hw0⟩ : ∃ w0, w0 = (((w.alloc (.cells #[.int .i64 a, .int .i64 b, .int .i64 c, .int .i64 d] 26)).alloc (.cells #[.int .i64 e, .int .i64 f, .int .i64 g, .int .i64 h] 26)).alloc (.cells #[.int .i64 0, .int .i64 0, .int .i64 0, .int .i64 0] 26)) := ⟨_, rfl⟩
  rw [← hw0]
  have HX : Hid (Bk4 w0 GX a b c d) := by
    have h := (bk4_new w a b c d 26).below (W' := (((w.alloc (.cells #[.int .i64 a, .int .i64 b, .int .i64 c, .int .i64 d] 26)).alloc (.cells #[.int .i64 e, .int .i64 f, .int .i64 g, .int .i64 h] 26)).alloc (.cells #[.int .i64 0, .int .i64 0, .int .i64 0, .int .i64 0] 26))) (by (repeat' (first | (with_reducible exact Below.refl _ _) | (with_reducible refine Below.alloc ?_ ?_ _) | (with_reducible refine Below.setCell ?_ ?_ _) | (with_reducible refine Below.drew ?_) | (with_reducible refine below_drewN ?_ _) | (with_reducible assumption) | (with_reducible refine below_after (by with_reducible assumption) ?_) | go_size)))
    (try simp only [World.size_alloc] at h)
    rw [hG] at h
    rw [hw0]; exact h
  have HY : Hid (Bk4 w0 (GX + 1) e f g h) := by
    have h := (bk4_new (w.alloc (.cells #[.int .i64 a, .int .i64 b, .int .i64 c, .int .i64 d] 26)) e f g h 26).below (W' := (((w.alloc (.cells #[.int .i64 a, .int .i64 b, .int .i64 c, .int .i64 d] 26)).alloc (.cells #[.int .i64 e, .int .i64 f, .int .i64 g, .int .i64 h] 26)).alloc (.cells #[.int .i64 0, .int .i64 0, .int .i64 0, .int .i64 0] 26))) (by (repeat' (first | (with_reducible exact Below.refl _ _) | (with_reducible refine Below.alloc ?_ ?_ _) | (with_reducible refine Below.setCell ?_ ?_ _) | (with_reducible refine Below.drew ?_) | (with_reducible refine below_drewN ?_ _) | (with_reducible assumption) | (with_reducible refine below_after (by with_reducible assumption) ?_) | go_size)))
    (try simp only [World.size_alloc] at h)
    rw [hG] at h
    rw [hw0]; exact h
  have HR : Hid (Bk4 w0 (GX + 1 + 1) 0 0 0 0) := by
    have h := (bk4_new ((w.alloc (.cells #[.int .i64 a, .int .i64 b, .int .i64 c, .int .i64 d] 26)).alloc (.cells #[.int .i64 e, .int .i64 f, .int .i64 g, .int .i64 h] 26)) 0 0 0 0 26).below (W' := (((w.alloc (.cells #[.int .i64 a, .int .i64 b, .int .i64 c, .int .i64 d] 26)).alloc (.cells #[.int .i64 e, .int .i64 f, .int .i64 g, .int .i64 h] 26)).alloc (.cells #[.int .i64 0, .int .i64 0, .int .i64 0, .int .i64 0] 26))) (by (repeat' (first | (with_reducible exact Below.refl _ _) | (with_reducible refine Below.alloc ?_ ?_ _) | (with_reducible refine Below.setCell ?_ ?_ _) | (with_reducible refine Below.drew ?_) | (with_reducible refine below_drewN ?_ _) | (with_reducible assumption) | (with_reducible refine below_after (by with_reducible assumption) ?_) | go_size)))
    (try simp only [World.size_alloc] at h)
    rw [hG] at h
    rw [hw0]; exact h
  have HB : Hid (Below w.heap.size w w0) := by show Below w.heap.size w w0; rw [hw0]; (repeat' (first | (with_reducible exact Below.refl _ _) | (with_reducible refine Below.alloc ?_ ?_ _) | (with_reducible refine Below.setCell ?_ ?_ _) | (with_reducible refine Below.drew ?_) | (with_reducible refine below_drewN ?_ _) | (with_reducible assumption) | (with_reducible refine below_after (by with_reducible assumption) ?_) | go_size))
  clear hw0
  obtain ⟨GR, hGR⟩ : ∃ g, GX + 1 + 1 = g := ⟨_, rfl⟩
  rw [hGR] at HR ⊢
  obtain ⟨GY, hGY⟩ : ∃ g, GX + 1 = g := ⟨_, rfl⟩
  rw [hGY] at HY ⊢
  have le_X : w.heap.size ≤ GX := by omega
  have le_Y : w.heap.size ≤ GY := by omega
  have ne_Y_X : GY ≠ GX := by omega
  have ne_X_Y : GX ≠ GY := by omega
  have le_R : w.heap.size ≤ GR := by omega
  have ne_R_X : GR ≠ GX := by omega
  have ne_X_R : GX ≠ GR := by omega
  have ne_R_Y : GR ≠ GY := by omega
  have ne_Y_R : GY ≠ GR := by omega
  clear hGY hGR
  obtain ⟨⟨qX0, qX1, qX2, qX3⟩, ⟨fX0, fX1, fX2, fX3⟩, zX⟩ := HX.out
  obtain ⟨⟨qY0, qY1, qY2, qY3⟩, ⟨fY0, fY1, fY2, fY3⟩, zY⟩ := HY.out
  obtain ⟨⟨qR0, qR1, qR2, qR3⟩, ⟨fR0, fR1, fR2, fR3⟩, zR⟩ := HR.out
  go_wp2_with fail
  go_at_call 51
  refine (l01Matrix_any a b c d _).mono ?_
  rintro e w1 ⟨rfl, hb⟩
  clear qX0 fX0 qX1 fX1 qX2 fX2 qX3 fX3 zX qY0 fY0 qY1 fY1 qY2 fY2 qY3 fY3 zY qR0 fR0 qR1 fR1 qR2 fR2 qR3 fR3 zR
  have HX := Lib.hid (HX.out.below hb)
  have HY := Lib.hid (HY.out.below hb)
  have HR := Lib.hid (HR.out.below hb)
  have HB := Lib.hid (below_after hb HB.out)
  clear hb
  obtain ⟨⟨qX0, qX1, qX2, qX3⟩, ⟨fX0, fX1, fX2, fX3⟩, zX⟩ := HX.out
  obtain ⟨⟨qY0, qY1, qY2, qY3⟩, ⟨fY0, fY1, fY2, fY3⟩, zY⟩ := HY.out
  obtain ⟨⟨qR0, qR1, qR2, qR3⟩, ⟨fR0, fR1, fR2, fR3⟩, zR⟩ := HR.out
  go_wp2_with fail
  go_at_call 51
  refine (l01Matrix_any e f g h _).mono ?_
  rintro e w2 ⟨rfl, hb⟩
  clear qX0 fX0 qX1 fX1 qX2 fX2 qX3 fX3 zX qY0 fY0 qY1 fY1 qY2 fY2 qY3 fY3 zY qR0 fR0 qR1 fR1 qR2 fR2 qR3 fR3 zR
  have HX := Lib.hid (HX.out.below hb)
  have HY := Lib.hid (HY.out.below hb)
  have HR := Lib.hid (HR.out.below hb)
  have HB := Lib.hid (below_after hb HB.out)
  clear hb
  obtain ⟨⟨qX0, qX1, qX2, qX3⟩, ⟨fX0, fX1, fX2, fX3⟩, zX⟩ := HX.out
  obtain ⟨⟨qY0, qY1, qY2, qY3⟩, ⟨fY0, fY1, fY2, fY3⟩, zY⟩ := HY.out
  obtain ⟨⟨qR0, qR1, qR2, qR3⟩, ⟨fR0, fR1, fR2, fR3⟩, zR⟩ := HR.out
  go_wp2_with fail
  go_at_call 64
  refine (HU.out _).mono ?_
  rintro e w3 ⟨rfl, hb⟩
  clear qX0 fX0 qX1 fX1 qX2 fX2 qX3 fX3 zX qY0 fY0 qY1 fY1 qY2 fY2 qY3 fY3 zY qR0 fR0 qR1 fR1 qR2 fR2 qR3 fR3 zR
  have HX := Lib.hid (HX.out.below hb)
  have HY := Lib.hid (HY.out.below hb)
  have HR := Lib.hid (HR.out.below hb)
  have HB := Lib.hid (below_after hb HB.out)
  clear hb
  have HXX : Hid (∀ W, Below w3.heap.size w3 W → Bk4 W GX a b c d ∧ Bk4 W GY e f g h ∧ Bk4 W GR 0 0 0 0) := fun W hW => ⟨HX.out.below hW, HY.out.below hW, HR.out.below hW⟩
  go_wp2_with fail
  refine wp_region_held_drew (S := fun W => Below w3.heap.size w3 W) (by kernel_rfl) ?_ (fun hHeld => ?_); focus ((try dsimp only); exact (Below.refl _ _).drew)
  have HX := Lib.hid (HX.out.below (Below.drew (Below.refl _ _)))
  have HY := Lib.hid (HY.out.below (Below.drew (Below.refl _ _)))
  have HR := Lib.hid (HR.out.below (Below.drew (Below.refl _ _)))
  have hHeld : Below w3.heap.size w3 _ := hHeld
  obtain ⟨wD, hwD⟩ : ∃ wD, w3.drew = wD := ⟨_, rfl⟩
  rw [hwD] at hHeld HX HY HR ⊢
  clear hwD
  (refine wpAnyH_take (i := 0) (v := ?_) rfl (by kernel_rfl) (by kernel_rfl) (by kernel_rfl) (fun _ _ _ h => h) (Or.inl ⟨rfl, ?_⟩) (by assumption) ?_; rotate_left; focus (intro W hSw; (try dsimp only at hSw); have hxx := HXX.out _ hSw; obtain ⟨hxX, hxY, hxR⟩ := hxx; obtain ⟨⟨iX0, iX1, iX2, iX3⟩, _, _⟩ := hxX; obtain ⟨⟨iY0, iY1, iY2, iY3⟩, _, _⟩ := hxY; obtain ⟨⟨iR0, iR1, iR2, iR3⟩, _, _⟩ := hxR; go_simp; try (with_reducible rfl))); (try simp only [Act.put, List.getElem_toArray, List.getElem_cons_succ, List.getElem_cons_zero, List.setIfInBounds_toArray, List.set_cons_zero, List.set_cons_succ])
  (refine wpAnyH_take (i := 2) (v := ?_) rfl (by kernel_rfl) (by kernel_rfl) (by kernel_rfl) (fun _ _ _ h => h) (Or.inl ⟨rfl, ?_⟩) (by assumption) ?_; rotate_left; focus (intro W hSw; (try dsimp only at hSw); have hxx := HXX.out _ hSw; obtain ⟨hxX, hxY, hxR⟩ := hxx; obtain ⟨⟨iX0, iX1, iX2, iX3⟩, _, _⟩ := hxX; obtain ⟨⟨iY0, iY1, iY2, iY3⟩, _, _⟩ := hxY; obtain ⟨⟨iR0, iR1, iR2, iR3⟩, _, _⟩ := hxR; go_simp; try (with_reducible rfl))); (try simp only [Act.put, List.getElem_toArray, List.getElem_cons_succ, List.getElem_cons_zero, List.setIfInBounds_toArray, List.set_cons_zero, List.set_cons_succ])
  refine wpAnyH_ready (rs := [1, 4]) (by kernel_rfl) (by simp) ?_; refine AllReadyH.cons rfl (fun K hK => ?_) (AllReadyH.cons rfl (fun K hK => ?_) AllReadyH.nil)
  · skip
    go_simp; (go_at_call 66; refine (HI.out _).mono ?_; rintro en ywr0 ⟨rfl, hb2⟩); have HX := Lib.hid (HX.out.below hb2); have HY := Lib.hid (HY.out.below hb2); have HR := Lib.hid (HR.out.below hb2); refine hK.out _ _ (below_after hb2 hHeld) (fun hHeld2 => ?_); clear hb2; (clear hHeld; rename _ => hHeld; clear hK K; have hHeld : Below w3.heap.size w3 _ := hHeld); (try simp only [Act.put, List.getElem_toArray, List.getElem_cons_succ, List.getElem_cons_zero, List.setIfInBounds_toArray, List.set_cons_zero, List.set_cons_succ])
    refine wpAnyH_ready (rs := [3, 4]) (by kernel_rfl) (by simp) ?_; refine AllReadyH.cons rfl (fun K hK => ?_) (AllReadyH.cons rfl (fun K hK => ?_) AllReadyH.nil)
    · skip
      go_simp; (go_at_call 65; refine (HM.out _).mono ?_; rintro en ywr1 ⟨rfl, hb2⟩); have HX := Lib.hid (HX.out.below hb2); have HY := Lib.hid (HY.out.below hb2); have HR := Lib.hid (HR.out.below hb2); refine hK.out _ _ (below_after hb2 hHeld) (fun hHeld2 => ?_); clear hb2; (clear hHeld; rename _ => hHeld; clear hK K; have hHeld : Below w3.heap.size w3 _ := hHeld); (try simp only [Act.put, List.getElem_toArray, List.getElem_cons_succ, List.getElem_cons_zero, List.setIfInBounds_toArray, List.set_cons_zero, List.set_cons_succ])
      refine wpAnyH_ready (rs := [4]) (by kernel_rfl) (by simp) ?_; refine AllReadyH.cons rfl (fun K hK => ?_) AllReadyH.nil
      go_simp; obtain ⟨GP, hGP⟩ : ∃ G, ywr1.heap.size = G := ⟨_, rfl⟩; have le_P : w3.heap.size ≤ GP := by rw [← hGP]; exact Below.size hHeld
      have ne_P_X : GP ≠ GX := by have := HX.out.2.2; omega
      have ne_X_P : GX ≠ GP := Ne.symm ne_P_X
      have ne_P_Y : GP ≠ GY := by have := HY.out.2.2; omega
      have ne_Y_P : GY ≠ GP := Ne.symm ne_P_Y
      have ne_P_R : GP ≠ GR := by have := HR.out.2.2; omega
      have ne_R_P : GR ≠ GP := Ne.symm ne_P_R
      have HX := Lib.hid (HX.out.below ((Below.refl _ _).alloc (Nat.le_refl _) (.cells #[.int .i64 0, .int .i64 0, .int .i64 0, .int .i64 0] 26))); have HY := Lib.hid (HY.out.below ((Below.refl _ _).alloc (Nat.le_refl _) (.cells #[.int .i64 0, .int .i64 0, .int .i64 0, .int .i64 0] 26))); have HR := Lib.hid (HR.out.below ((Below.refl _ _).alloc (Nat.le_refl _) (.cells #[.int .i64 0, .int .i64 0, .int .i64 0, .int .i64 0] 26))); skip
      have HP : Hid (Bk4 (ywr1.alloc (.cells #[.int .i64 0, .int .i64 0, .int .i64 0, .int .i64 0] 26)) GP 0 0 0 0) := by rw [← hGP]; exact bk4_new ywr1 0 0 0 0 _
      refine hK.out _ _ (Below.alloc hHeld (Below.size hHeld) _) (fun hHeld2 => ?_); (clear hHeld; rename _ => hHeld; clear hK K; have hHeld : Below w3.heap.size w3 _ := hHeld); (try simp only [Act.put, List.getElem_toArray, List.getElem_cons_succ, List.getElem_cons_zero, List.setIfInBounds_toArray, List.set_cons_zero, List.set_cons_succ])
      rw [hGP]; clear hGP; obtain ⟨ywr2, hwx⟩ : ∃ wx, ywr1.alloc (.cells #[.int .i64 0, .int .i64 0, .int .i64 0, .int .i64 0] 26) = wx := ⟨_, rfl⟩; rw [hwx] at HX HY HR HP hHeld ⊢; clear hwx
      refine wpAnyH_ready (rs := [5]) (by kernel_rfl) (by simp) ?_; refine AllReadyH.cons rfl (fun K hK => ?_) AllReadyH.nil
      obtain ⟨⟨a0, a1, a2, a3⟩, ⟨f0, f1, f2, f3⟩, az⟩ := HP.out; go_simp; clear a0 f0 a1 f1 a2 f2 a3 f3 az
      have HX := Lib.hid ((((HX.out.far ⟨GP, 0, none⟩ (.int .i64 p) (by show GX ≠ GP; exact ne_X_P)).far ⟨GP, 1, none⟩ (.int .i64 q) (by show GX ≠ GP; exact ne_X_P)).far ⟨GP, 2, none⟩ (.int .i64 r) (by show GX ≠ GP; exact ne_X_P)).far ⟨GP, 3, none⟩ (.int .i64 s) (by show GX ≠ GP; exact ne_X_P))
      have HY := Lib.hid ((((HY.out.far ⟨GP, 0, none⟩ (.int .i64 p) (by show GY ≠ GP; exact ne_Y_P)).far ⟨GP, 1, none⟩ (.int .i64 q) (by show GY ≠ GP; exact ne_Y_P)).far ⟨GP, 2, none⟩ (.int .i64 r) (by show GY ≠ GP; exact ne_Y_P)).far ⟨GP, 3, none⟩ (.int .i64 s) (by show GY ≠ GP; exact ne_Y_P))
      have HR := Lib.hid ((((HR.out.far ⟨GP, 0, none⟩ (.int .i64 p) (by show GR ≠ GP; exact ne_R_P)).far ⟨GP, 1, none⟩ (.int .i64 q) (by show GR ≠ GP; exact ne_R_P)).far ⟨GP, 2, none⟩ (.int .i64 r) (by show GR ≠ GP; exact ne_R_P)).far ⟨GP, 3, none⟩ (.int .i64 s) (by show GR ≠ GP; exact ne_R_P))
      have HP := Lib.hid ((((HP.out.set0 p).set1 q).set2 r).set3 s)
      refine hK.out _ _ (Below.setCell (Below.setCell (Below.setCell (Below.setCell hHeld (p := ⟨GP, 0, none⟩) le_P _) (p := ⟨GP, 1, none⟩) le_P _) (p := ⟨GP, 2, none⟩) le_P _) (p := ⟨GP, 3, none⟩) le_P _) (fun hHeld2 => ?_); (clear hHeld; rename _ => hHeld; clear hK K; have hHeld : Below w3.heap.size w3 _ := hHeld); (try simp only [Act.put, List.getElem_toArray, List.getElem_cons_succ, List.getElem_cons_zero, List.setIfInBounds_toArray, List.set_cons_zero, List.set_cons_succ])
      obtain ⟨ywr3, hwx⟩ : ∃ wx, (((ywr2.setCell ⟨GP, 0, none⟩ (.int .i64 p)).setCell ⟨GP, 1, none⟩ (.int .i64 q)).setCell ⟨GP, 2, none⟩ (.int .i64 r)).setCell ⟨GP, 3, none⟩ (.int .i64 s) = wx := ⟨_, rfl⟩; rw [hwx] at HX HY HR HP hHeld ⊢; clear hwx
      refine wpAnyH_done (by kernel_rfl) ?_ _
      have le_P : w.heap.size ≤ GP := Nat.le_trans HB.out.size le_P
      have HB := Lib.hid (HB.out.trans (hHeld.mono HB.out.size))
      clear hHeld HXX
      obtain ⟨⟨qX0, qX1, qX2, qX3⟩, ⟨fX0, fX1, fX2, fX3⟩, zX⟩ := HX.out
      obtain ⟨⟨qY0, qY1, qY2, qY3⟩, ⟨fY0, fY1, fY2, fY3⟩, zY⟩ := HY.out
      obtain ⟨⟨qR0, qR1, qR2, qR3⟩, ⟨fR0, fR1, fR2, fR3⟩, zR⟩ := HR.out
      obtain ⟨⟨qP0, qP1, qP2, qP3⟩, ⟨fP0, fP1, fP2, fP3⟩, zP⟩ := HP.out
      go_wp2_with fail
      go_at_call 51
      refine (l01Matrix_any p q r s _).mono ?_
      rintro e w54 ⟨rfl, hb⟩
      clear qX0 fX0 qX1 fX1 qX2 fX2 qX3 fX3 zX qY0 fY0 qY1 fY1 qY2 fY2 qY3 fY3 zY qR0 fR0 qR1 fR1 qR2 fR2 qR3 fR3 zR qP0 fP0 qP1 fP1 qP2 fP2 qP3 fP3 zP
      have HX := Lib.hid (HX.out.below hb)
      have HY := Lib.hid (HY.out.below hb)
      have HR := Lib.hid (HR.out.below hb)
      have HP := Lib.hid (HP.out.below hb)
      have HB := Lib.hid (below_after hb HB.out)
      clear hb
      obtain ⟨⟨qX0, qX1, qX2, qX3⟩, ⟨fX0, fX1, fX2, fX3⟩, zX⟩ := HX.out
      obtain ⟨⟨qY0, qY1, qY2, qY3⟩, ⟨fY0, fY1, fY2, fY3⟩, zY⟩ := HY.out
      obtain ⟨⟨qR0, qR1, qR2, qR3⟩, ⟨fR0, fR1, fR2, fR3⟩, zR⟩ := HR.out
      obtain ⟨⟨qP0, qP1, qP2, qP3⟩, ⟨fP0, fP1, fP2, fP3⟩, zP⟩ := HP.out
      go_wp2_with fail
      refine bodyPost_ret (v := .tuple #[.agg #[.int .i64 0, .int .i64 0, .int .i64 0, .int .i64 0], .int .i64 3]) (by simp (maxDischargeDepth := 8) [results, Try.results25, go_sem, *]) rfl ?_
      have hb := HB.out
      exact ⟨rfl, by (repeat' (first | (with_reducible exact Below.refl _ _) | (with_reducible refine Below.alloc ?_ ?_ _) | (with_reducible refine Below.setCell ?_ ?_ _) | (with_reducible refine Below.drew ?_) | (with_reducible refine below_drewN ?_ _) | (with_reducible assumption) | (with_reducible refine below_after (by with_reducible assumption) ?_) | go_size))⟩
    · skip
      go_simp; obtain ⟨GP, hGP⟩ : ∃ G, ywr0.heap.size = G := ⟨_, rfl⟩; have le_P : w3.heap.size ≤ GP := by rw [← hGP]; exact Below.size hHeld
      have ne_P_X : GP ≠ GX := by have := HX.out.2.2; omega
      have ne_X_P : GX ≠ GP := Ne.symm ne_P_X
      have ne_P_Y : GP ≠ GY := by have := HY.out.2.2; omega
      have ne_Y_P : GY ≠ GP := Ne.symm ne_P_Y
      have ne_P_R : GP ≠ GR := by have := HR.out.2.2; omega
      have ne_R_P : GR ≠ GP := Ne.symm ne_P_R
      have HX := Lib.hid (HX.out.below ((Below.refl _ _).alloc (Nat.le_refl _) (.cells #[.int .i64 0, .int .i64 0, .int .i64 0, .int .i64 0] 26))); have HY := Lib.hid (HY.out.below ((Below.refl _ _).alloc (Nat.le_refl _) (.cells #[.int .i64 0, .int .i64 0, .int .i64 0, .int .i64 0] 26))); have HR := Lib.hid (HR.out.below ((Below.refl _ _).alloc (Nat.le_refl _) (.cells #[.int .i64 0, .int .i64 0, .int .i64 0, .int .i64 0] 26))); skip
      have HP : Hid (Bk4 (ywr0.alloc (.cells #[.int .i64 0, .int .i64 0, .int .i64 0, .int .i64 0] 26)) GP 0 0 0 0) := by rw [← hGP]; exact bk4_new ywr0 0 0 0 0 _
      refine hK.out _ _ (Below.alloc hHeld (Below.size hHeld) _) (fun hHeld2 => ?_); (clear hHeld; rename _ => hHeld; clear hK K; have hHeld : Below w3.heap.size w3 _ := hHeld); (try simp only [Act.put, List.getElem_toArray, List.getElem_cons_succ, List.getElem_cons_zero, List.setIfInBounds_toArray, List.set_cons_zero, List.set_cons_succ])
      rw [hGP]; clear hGP; obtain ⟨ywr1, hwx⟩ : ∃ wx, ywr0.alloc (.cells #[.int .i64 0, .int .i64 0, .int .i64 0, .int .i64 0] 26) = wx := ⟨_, rfl⟩; rw [hwx] at HX HY HR HP hHeld ⊢; clear hwx
      refine wpAnyH_ready (rs := [3]) (by kernel_rfl) (by simp) ?_; refine AllReadyH.cons rfl (fun K hK => ?_) AllReadyH.nil
      go_simp; (go_at_call 65; refine (HM.out _).mono ?_; rintro en ywr2 ⟨rfl, hb2⟩); have HX := Lib.hid (HX.out.below hb2); have HY := Lib.hid (HY.out.below hb2); have HR := Lib.hid (HR.out.below hb2); have HP := Lib.hid (HP.out.below hb2); refine hK.out _ _ (below_after hb2 hHeld) (fun hHeld2 => ?_); clear hb2; (clear hHeld; rename _ => hHeld; clear hK K; have hHeld : Below w3.heap.size w3 _ := hHeld); (try simp only [Act.put, List.getElem_toArray, List.getElem_cons_succ, List.getElem_cons_zero, List.setIfInBounds_toArray, List.set_cons_zero, List.set_cons_succ])
      refine wpAnyH_ready (rs := [5]) (by kernel_rfl) (by simp) ?_; refine AllReadyH.cons rfl (fun K hK => ?_) AllReadyH.nil
      obtain ⟨⟨a0, a1, a2, a3⟩, ⟨f0, f1, f2, f3⟩, az⟩ := HP.out; go_simp; clear a0 f0 a1 f1 a2 f2 a3 f3 az
      have HX := Lib.hid ((((HX.out.far ⟨GP, 0, none⟩ (.int .i64 p) (by show GX ≠ GP; exact ne_X_P)).far ⟨GP, 1, none⟩ (.int .i64 q) (by show GX ≠ GP; exact ne_X_P)).far ⟨GP, 2, none⟩ (.int .i64 r) (by show GX ≠ GP; exact ne_X_P)).far ⟨GP, 3, none⟩ (.int .i64 s) (by show GX ≠ GP; exact ne_X_P))
      have HY := Lib.hid ((((HY.out.far ⟨GP, 0, none⟩ (.int .i64 p) (by show GY ≠ GP; exact ne_Y_P)).far ⟨GP, 1, none⟩ (.int .i64 q) (by show GY ≠ GP; exact ne_Y_P)).far ⟨GP, 2, none⟩ (.int .i64 r) (by show GY ≠ GP; exact ne_Y_P)).far ⟨GP, 3, none⟩ (.int .i64 s) (by show GY ≠ GP; exact ne_Y_P))
      have HR := Lib.hid ((((HR.out.far ⟨GP, 0, none⟩ (.int .i64 p) (by show GR ≠ GP; exact ne_R_P)).far ⟨GP, 1, none⟩ (.int .i64 q) (by show GR ≠ GP; exact ne_R_P)).far ⟨GP, 2, none⟩ (.int .i64 r) (by show GR ≠ GP; exact ne_R_P)).far ⟨GP, 3, none⟩ (.int .i64 s) (by show GR ≠ GP; exact ne_R_P))
      have HP := Lib.hid ((((HP.out.set0 p).set1 q).set2 r).set3 s)
      refine hK.out _ _ (Below.setCell (Below.setCell (Below.setCell (Below.setCell hHeld (p := ⟨GP, 0, none⟩) le_P _) (p := ⟨GP, 1, none⟩) le_P _) (p := ⟨GP, 2, none⟩) le_P _) (p := ⟨GP, 3, none⟩) le_P _) (fun hHeld2 => ?_); (clear hHeld; rename _ => hHeld; clear hK K; have hHeld : Below w3.heap.size w3 _ := hHeld); (try simp only [Act.put, List.getElem_toArray, List.getElem_cons_succ, List.getElem_cons_zero, List.setIfInBounds_toArray, List.set_cons_zero, List.set_cons_succ])
      obtain ⟨ywr3, hwx⟩ : ∃ wx, (((ywr2.setCell ⟨GP, 0, none⟩ (.int .i64 p)).setCell ⟨GP, 1, none⟩ (.int .i64 q)).setCell ⟨GP, 2, none⟩ (.int .i64 r)).setCell ⟨GP, 3, none⟩ (.int .i64 s) = wx := ⟨_, rfl⟩; rw [hwx] at HX HY HR HP hHeld ⊢; clear hwx
      refine wpAnyH_done (by kernel_rfl) ?_ _
      have le_P : w.heap.size ≤ GP := Nat.le_trans HB.out.size le_P
      have HB := Lib.hid (HB.out.trans (hHeld.mono HB.out.size))
      clear hHeld HXX
      obtain ⟨⟨qX0, qX1, qX2, qX3⟩, ⟨fX0, fX1, fX2, fX3⟩, zX⟩ := HX.out
      obtain ⟨⟨qY0, qY1, qY2, qY3⟩, ⟨fY0, fY1, fY2, fY3⟩, zY⟩ := HY.out
      obtain ⟨⟨qR0, qR1, qR2, qR3⟩, ⟨fR0, fR1, fR2, fR3⟩, zR⟩ := HR.out
      obtain ⟨⟨qP0, qP1, qP2, qP3⟩, ⟨fP0, fP1, fP2, fP3⟩, zP⟩ := HP.out
      go_wp2_with fail
      go_at_call 51
      refine (l01Matrix_any p q r s _).mono ?_
      rintro e w54 ⟨rfl, hb⟩
      clear qX0 fX0 qX1 fX1 qX2 fX2 qX3 fX3 zX qY0 fY0 qY1 fY1 qY2 fY2 qY3 fY3 zY qR0 fR0 qR1 fR1 qR2 fR2 qR3 fR3 zR qP0 fP0 qP1 fP1 qP2 fP2 qP3 fP3 zP
      have HX := Lib.hid (HX.out.below hb)
      have HY := Lib.hid (HY.out.below hb)
      have HR := Lib.hid (HR.out.below hb)
      have HP := Lib.hid (HP.out.below hb)
      have HB := Lib.hid (below_after hb HB.out)
      clear hb
      obtain ⟨⟨qX0, qX1, qX2, qX3⟩, ⟨fX0, fX1, fX2, fX3⟩, zX⟩ := HX.out
      obtain ⟨⟨qY0, qY1, qY2, qY3⟩, ⟨fY0, fY1, fY2, fY3⟩, zY⟩ := HY.out
      obtain ⟨⟨qR0, qR1, qR2, qR3⟩, ⟨fR0, fR1, fR2, fR3⟩, zR⟩ := HR.out
      obtain ⟨⟨qP0, qP1, qP2, qP3⟩, ⟨fP0, fP1, fP2, fP3⟩, zP⟩ := HP.out
      go_wp2_with fail
      refine bodyPost_ret (v := .tuple #[.agg #[.int .i64 0, .int .i64 0, .int .i64 0, .int .i64 0], .int .i64 3]) (by simp (maxDischargeDepth := 8) [results, Try.results25, go_sem, *]) rfl ?_
      have hb := HB.out
      exact ⟨rfl, by (repeat' (first | (with_reducible exact Below.refl _ _) | (with_reducible refine Below.alloc ?_ ?_ _) | (with_reducible refine Below.setCell ?_ ?_ _) | (with_reducible refine Below.drew ?_) | (with_reducible refine below_drewN ?_ _) | (with_reducible assumption) | (with_reducible refine below_after (by with_reducible assumption) ?_) | go_size))⟩
  · skip
    go_simp; obtain ⟨GP, hGP⟩ : ∃ G, wD.heap.size = G := ⟨_, rfl⟩; have le_P : w3.heap.size ≤ GP := by rw [← hGP]; exact Below.size hHeld
    have ne_P_X : GP ≠ GX := by have := HX.out.2.2; omega
    have ne_X_P : GX ≠ GP := Ne.symm ne_P_X
    have ne_P_Y : GP ≠ GY := by have := HY.out.2.2; omega
    have ne_Y_P : GY ≠ GP := Ne.symm ne_P_Y
    have ne_P_R : GP ≠ GR := by have := HR.out.2.2; omega
    have ne_R_P : GR ≠ GP := Ne.symm ne_P_R
    have HX := Lib.hid (HX.out.below ((Below.refl _ _).alloc (Nat.le_refl _) (.cells #[.int .i64 0, .int .i64 0, .int .i64 0, .int .i64 0] 26))); have HY := Lib.hid (HY.out.below ((Below.refl _ _).alloc (Nat.le_refl _) (.cells #[.int .i64 0, .int .i64 0, .int .i64 0, .int .i64 0] 26))); have HR := Lib.hid (HR.out.below ((Below.refl _ _).alloc (Nat.le_refl _) (.cells #[.int .i64 0, .int .i64 0, .int .i64 0, .int .i64 0] 26))); skip
    have HP : Hid (Bk4 (wD.alloc (.cells #[.int .i64 0, .int .i64 0, .int .i64 0, .int .i64 0] 26)) GP 0 0 0 0) := by rw [← hGP]; exact bk4_new wD 0 0 0 0 _
    refine hK.out _ _ (Below.alloc hHeld (Below.size hHeld) _) (fun hHeld2 => ?_); (clear hHeld; rename _ => hHeld; clear hK K; have hHeld : Below w3.heap.size w3 _ := hHeld); (try simp only [Act.put, List.getElem_toArray, List.getElem_cons_succ, List.getElem_cons_zero, List.setIfInBounds_toArray, List.set_cons_zero, List.set_cons_succ])
    rw [hGP]; clear hGP; obtain ⟨ywr0, hwx⟩ : ∃ wx, wD.alloc (.cells #[.int .i64 0, .int .i64 0, .int .i64 0, .int .i64 0] 26) = wx := ⟨_, rfl⟩; rw [hwx] at HX HY HR HP hHeld ⊢; clear hwx
    refine wpAnyH_ready (rs := [1]) (by kernel_rfl) (by simp) ?_; refine AllReadyH.cons rfl (fun K hK => ?_) AllReadyH.nil
    go_simp; (go_at_call 66; refine (HI.out _).mono ?_; rintro en ywr1 ⟨rfl, hb2⟩); have HX := Lib.hid (HX.out.below hb2); have HY := Lib.hid (HY.out.below hb2); have HR := Lib.hid (HR.out.below hb2); have HP := Lib.hid (HP.out.below hb2); refine hK.out _ _ (below_after hb2 hHeld) (fun hHeld2 => ?_); clear hb2; (clear hHeld; rename _ => hHeld; clear hK K; have hHeld : Below w3.heap.size w3 _ := hHeld); (try simp only [Act.put, List.getElem_toArray, List.getElem_cons_succ, List.getElem_cons_zero, List.setIfInBounds_toArray, List.set_cons_zero, List.set_cons_succ])
    refine wpAnyH_ready (rs := [3]) (by kernel_rfl) (by simp) ?_; refine AllReadyH.cons rfl (fun K hK => ?_) AllReadyH.nil
    go_simp; (go_at_call 65; refine (HM.out _).mono ?_; rintro en ywr2 ⟨rfl, hb2⟩); have HX := Lib.hid (HX.out.below hb2); have HY := Lib.hid (HY.out.below hb2); have HR := Lib.hid (HR.out.below hb2); have HP := Lib.hid (HP.out.below hb2); refine hK.out _ _ (below_after hb2 hHeld) (fun hHeld2 => ?_); clear hb2; (clear hHeld; rename _ => hHeld; clear hK K; have hHeld : Below w3.heap.size w3 _ := hHeld); (try simp only [Act.put, List.getElem_toArray, List.getElem_cons_succ, List.getElem_cons_zero, List.setIfInBounds_toArray, List.set_cons_zero, List.set_cons_succ])
    refine wpAnyH_ready (rs := [5]) (by kernel_rfl) (by simp) ?_; refine AllReadyH.cons rfl (fun K hK => ?_) AllReadyH.nil
    obtain ⟨⟨a0, a1, a2, a3⟩, ⟨f0, f1, f2, f3⟩, az⟩ := HP.out; go_simp; clear a0 f0 a1 f1 a2 f2 a3 f3 az
    have HX := Lib.hid ((((HX.out.far ⟨GP, 0, none⟩ (.int .i64 p) (by show GX ≠ GP; exact ne_X_P)).far ⟨GP, 1, none⟩ (.int .i64 q) (by show GX ≠ GP; exact ne_X_P)).far ⟨GP, 2, none⟩ (.int .i64 r) (by show GX ≠ GP; exact ne_X_P)).far ⟨GP, 3, none⟩ (.int .i64 s) (by show GX ≠ GP; exact ne_X_P))
    have HY := Lib.hid ((((HY.out.far ⟨GP, 0, none⟩ (.int .i64 p) (by show GY ≠ GP; exact ne_Y_P)).far ⟨GP, 1, none⟩ (.int .i64 q) (by show GY ≠ GP; exact ne_Y_P)).far ⟨GP, 2, none⟩ (.int .i64 r) (by show GY ≠ GP; exact ne_Y_P)).far ⟨GP, 3, none⟩ (.int .i64 s) (by show GY ≠ GP; exact ne_Y_P))
    have HR := Lib.hid ((((HR.out.far ⟨GP, 0, none⟩ (.int .i64 p) (by show GR ≠ GP; exact ne_R_P)).far ⟨GP, 1, none⟩ (.int .i64 q) (by show GR ≠ GP; exact ne_R_P)).far ⟨GP, 2, none⟩ (.int .i64 r) (by show GR ≠ GP; exact ne_R_P)).far ⟨GP, 3, none⟩ (.int .i64 s) (by show GR ≠ GP; exact ne_R_P))
    have HP := Lib.hid ((((HP.out.set0 p).set1 q).set2 r).set3 s)
    refine hK.out _ _ (Below.setCell (Below.setCell (Below.setCell (Below.setCell hHeld (p := ⟨GP, 0, none⟩) le_P _) (p := ⟨GP, 1, none⟩) le_P _) (p := ⟨GP, 2, none⟩) le_P _) (p := ⟨GP, 3, none⟩) le_P _) (fun hHeld2 => ?_); (clear hHeld; rename _ => hHeld; clear hK K; have hHeld : Below w3.heap.size w3 _ := hHeld); (try simp only [Act.put, List.getElem_toArray, List.getElem_cons_succ, List.getElem_cons_zero, List.setIfInBounds_toArray, List.set_cons_zero, List.set_cons_succ])
    obtain ⟨ywr3, hwx⟩ : ∃ wx, (((ywr2.setCell ⟨GP, 0, none⟩ (.int .i64 p)).setCell ⟨GP, 1, none⟩ (.int .i64 q)).setCell ⟨GP, 2, none⟩ (.int .i64 r)).setCell ⟨GP, 3, none⟩ (.int .i64 s) = wx := ⟨_, rfl⟩; rw [hwx] at HX HY HR HP hHeld ⊢; clear hwx
    refine wpAnyH_done (by kernel_rfl) ?_ _
    have le_P : w.heap.size ≤ GP := Nat.le_trans HB.out.size le_P
    have HB := Lib.hid (HB.out.trans (hHeld.mono HB.out.size))
    clear hHeld HXX
    obtain ⟨⟨qX0, qX1, qX2, qX3⟩, ⟨fX0, fX1, fX2, fX3⟩, zX⟩ := HX.out
    obtain ⟨⟨qY0, qY1, qY2, qY3⟩, ⟨fY0, fY1, fY2, fY3⟩, zY⟩ := HY.out
    obtain ⟨⟨qR0, qR1, qR2, qR3⟩, ⟨fR0, fR1, fR2, fR3⟩, zR⟩ := HR.out
    obtain ⟨⟨qP0, qP1, qP2, qP3⟩, ⟨fP0, fP1, fP2, fP3⟩, zP⟩ := HP.out
    go_wp2_with fail
    go_at_call 51
    refine (l01Matrix_any p q r s _).mono ?_
    rintro e w54 ⟨rfl, hb⟩
    clear qX0 fX0 qX1 fX1 qX2 fX2 qX3 fX3 zX qY0 fY0 qY1 fY1 qY2 fY2 qY3 fY3 zY qR0 fR0 qR1 fR1 qR2 fR2 qR3 fR3 zR qP0 fP0 qP1 fP1 qP2 fP2 qP3 fP3 zP
    have HX := Lib.hid (HX.out.below hb)
    have HY := Lib.hid (HY.out.below hb)
    have HR := Lib.hid (HR.out.below hb)
    have HP := Lib.hid (HP.out.below hb)
    have HB := Lib.hid (below_after hb HB.out)
    clear hb
    obtain ⟨⟨qX0, qX1, qX2, qX3⟩, ⟨fX0, fX1, fX2, fX3⟩, zX⟩ := HX.out
    obtain ⟨⟨qY0, qY1, qY2, qY3⟩, ⟨fY0, fY1, fY2, fY3⟩, zY⟩ := HY.out
    obtain ⟨⟨qR0, qR1, qR2, qR3⟩, ⟨fR0, fR1, fR2, fR3⟩, zR⟩ := HR.out
    obtain ⟨⟨qP0, qP1, qP2, qP3⟩, ⟨fP0, fP1, fP2, fP3⟩, zP⟩ := HP.out
    go_wp2_with fail
    refine bodyPost_ret (v := .tuple #[.agg #[.int .i64 0, .int .i64 0, .int .i64 0, .int .i64 0], .int .i64 3]) (by simp (maxDischargeDepth := 8) [results, Try.results25, go_sem, *]) rfl ?_
    have hb := HB.out
    exact ⟨rfl, by (repeat' (first | (with_reducible exact Below.refl _ _) | (with_reducible refine Below.alloc ?_ ?_ _) | (with_reducible refine Below.setCell ?_ ?_ _) | (with_reducible refine Below.drew ?_) | (with_reducible refine below_drewN ?_ _) | (with_reducible assumption) | (with_reducible refine below_after (by with_reducible assumption) ?_) | go_size))⟩
set_option maxHeartbeats 3200000 in
theorem spec_Conj_lim2 (a b c d e f g h i j k l p q r s P Q R S : Int) (w : World) (hm : isMx a b c d = true) (h1 : isMx e f g h = true) (h2 : isMx p q r s = true) (h3 : isMx P Q R S = false) (HU : Hid (∀ w, Calls Try.prog 64 #[.agg #[.int .i64 e, .int .i64 f, .int .i64 g, .int .i64 h]] w fun e w' => e = .returned (.bool true) ∧ Below w.heap.size w w')) (HI : Hid (∀ w, Calls Try.prog 66 #[.agg #[.int .i64 e, .int .i64 f, .int .i64 g, .int .i64 h]] w fun e w' => e = .returned (.agg #[.int .i64 i, .int .i64 j, .int .i64 k, .int .i64 l]) ∧ Below w.heap.size w w')) (HM : Hid (∀ w, Calls Try.prog 65 #[.agg #[.int .i64 i, .int .i64 j, .int .i64 k, .int .i64 l], .agg #[.int .i64 a, .int .i64 b, .int .i64 c, .int .i64 d]] w fun e w' => e = .returned (.agg #[.int .i64 p, .int .i64 q, .int .i64 r, .int .i64 s]) ∧ Below w.heap.size w w')) (HE : Hid (∀ w, Calls Try.prog 65 #[.agg #[.int .i64 p, .int .i64 q, .int .i64 r, .int .i64 s], .agg #[.int .i64 e, .int .i64 f, .int .i64 g, .int .i64 h]] w fun e w' => e = .returned (.agg #[.int .i64 P, .int .i64 Q, .int .i64 R, .int .i64 S]) ∧ Below w.heap.size w w')) : Calls Try.prog 25 #[.agg #[.int .i64 a, .int .i64 b, .int .i64 c, .int .i64 d], .agg #[.int .i64 e, .int .i64 f, .int .i64 g, .int .i64 h]] w fun e1 w' => e1 = .returned (.tuple #[.agg #[.int .i64 0, .int .i64 0, .int .i64 0, .int .i64 0], .int .i64 3]) ∧ Below w.heap.size w w' := by
  obtain ⟨GX, hG⟩ : ∃ G, w.heap.size = G := ⟨_, rfl⟩
  have HG := Lib.hid hG
  go_enter Try.func25, Try.ntmps25
  go_upto_region 1 with fail
  obtain ⟨w0, hw0⟩ : ∃ w0, w0 = (((w.alloc (.cells #[.int .i64 a, .int .i64 b, .int .i64 c, .int .i64 d] 26)).alloc (.cells #[.int .i64 e, .int .i64 f, .int .i64 g, .int .i64 h] 26)).alloc (.cells #[.int .i64 0, .int .i64 0, .int .i64 0, .int .i64 0] 26)) := ⟨_, rfl⟩
  rw [← hw0]
  have HX : Hid (Bk4 w0 GX a b c d) := by
    have h := (bk4_new w a b c d 26).below (W' := (((w.alloc (.cells #[.int .i64 a, .int .i64 b, .int .i64 c, .int .i64 d] 26)).alloc (.cells #[.int .i64 e, .int .i64 f, .int .i64 g, .int .i64 h] 26)).alloc (.cells #[.int .i64 0, .int .i64 0, .int .i64 0, .int .i64 0] 26))) (by (repeat' (first | (with_reducible exact Below.refl _ _) | (with_reducible refine Below.alloc ?_ ?_ _) | (with_reducible refine Below.setCell ?_ ?_ _) | (with_reducible refine Below.drew ?_) | (with_reducible refine below_drewN ?_ _) | (with_reducible assumption) | (with_reducible refine below_after (by with_reducible assumption) ?_) | go_size)))
    (try simp only [World.size_alloc] at h)
    rw [hG] at h
    rw [hw0]; exact h
  have HY : Hid (Bk4 w0 (GX + 1) e f g h) := by
    have h := (bk4_new (w.alloc (.cells #[.int .i64 a, .int .i64 b, .int .i64 c, .int .i64 d] 26)) e f g h 26).below (W' := (((w.alloc (.cells #[.int .i64 a, .int .i64 b, .int .i64 c, .int .i64 d] 26)).alloc (.cells #[.int .i64 e, .int .i64 f, .int .i64 g, .int .i64 h] 26)).alloc (.cells #[.int .i64 0, .int .i64 0, .int .i64 0, .int .i64 0] 26))) (by (repeat' (first | (with_reducible exact Below.refl _ _) | (with_reducible refine Below.alloc ?_ ?_ _) | (with_reducible refine Below.setCell ?_ ?_ _) | (with_reducible refine Below.drew ?_) | (with_reducible refine below_drewN ?_ _) | (with_reducible assumption) | (with_reducible refine below_after (by with_reducible assumption) ?_) | go_size)))
    (try simp only [World.size_alloc] at h)
    rw [hG] at h
    rw [hw0]; exact h
  have HR : Hid (Bk4 w0 (GX + 1 + 1) 0 0 0 0) := by
    have h := (bk4_new ((w.alloc (.cells #[.int .i64 a, .int .i64 b, .int .i64 c, .int .i64 d] 26)).alloc (.cells #[.int .i64 e, .int .i64 f, .int .i64 g, .int .i64 h] 26)) 0 0 0 0 26).below (W' := (((w.alloc (.cells #[.int .i64 a, .int .i64 b, .int .i64 c, .int .i64 d] 26)).alloc (.cells #[.int .i64 e, .int .i64 f, .int .i64 g, .int .i64 h] 26)).alloc (.cells #[.int .i64 0, .int .i64 0, .int .i64 0, .int .i64 0] 26))) (by (repeat' (first | (with_reducible exact Below.refl _ _) | (with_reducible refine Below.alloc ?_ ?_ _) | (with_reducible refine Below.setCell ?_ ?_ _) | (with_reducible refine Below.drew ?_) | (with_reducible refine below_drewN ?_ _) | (with_reducible assumption) | (with_reducible refine below_after (by with_reducible assumption) ?_) | go_size)))
    (try simp only [World.size_alloc] at h)
    rw [hG] at h
    rw [hw0]; exact h
  have HB : Hid (Below w.heap.size w w0) := by show Below w.heap.size w w0; rw [hw0]; (repeat' (first | (with_reducible exact Below.refl _ _) | (with_reducible refine Below.alloc ?_ ?_ _) | (with_reducible refine Below.setCell ?_ ?_ _) | (with_reducible refine Below.drew ?_) | (with_reducible refine below_drewN ?_ _) | (with_reducible assumption) | (with_reducible refine below_after (by with_reducible assumption) ?_) | go_size))
  clear hw0
  obtain ⟨GR, hGR⟩ : ∃ g, GX + 1 + 1 = g := ⟨_, rfl⟩
  rw [hGR] at HR ⊢
  obtain ⟨GY, hGY⟩ : ∃ g, GX + 1 = g := ⟨_, rfl⟩
  rw [hGY] at HY ⊢
  have le_X : w.heap.size ≤ GX := by omega
  have le_Y : w.heap.size ≤ GY := by omega
  have ne_Y_X : GY ≠ GX := by omega
  have ne_X_Y : GX ≠ GY := by omega
  have le_R : w.heap.size ≤ GR := by omega
  have ne_R_X : GR ≠ GX := by omega
  have ne_X_R : GX ≠ GR := by omega
  have ne_R_Y : GR ≠ GY := by omega
  have ne_Y_R : GY ≠ GR := by omega
  clear hGY hGR
  obtain ⟨⟨qX0, qX1, qX2, qX3⟩, ⟨fX0, fX1, fX2, fX3⟩, zX⟩ := HX.out
  obtain ⟨⟨qY0, qY1, qY2, qY3⟩, ⟨fY0, fY1, fY2, fY3⟩, zY⟩ := HY.out
  obtain ⟨⟨qR0, qR1, qR2, qR3⟩, ⟨fR0, fR1, fR2, fR3⟩, zR⟩ := HR.out
  go_wp2_with fail
  go_at_call 51
  refine (l01Matrix_any a b c d _).mono ?_
  rintro e w1 ⟨rfl, hb⟩
  clear qX0 fX0 qX1 fX1 qX2 fX2 qX3 fX3 zX qY0 fY0 qY1 fY1 qY2 fY2 qY3 fY3 zY qR0 fR0 qR1 fR1 qR2 fR2 qR3 fR3 zR
  have HX := Lib.hid (HX.out.below hb)
  have HY := Lib.hid (HY.out.below hb)
  have HR := Lib.hid (HR.out.below hb)
  have HB := Lib.hid (below_after hb HB.out)
  clear hb
  obtain ⟨⟨qX0, qX1, qX2, qX3⟩, ⟨fX0, fX1, fX2, fX3⟩, zX⟩ := HX.out
  obtain ⟨⟨qY0, qY1, qY2, qY3⟩, ⟨fY0, fY1, fY2, fY3⟩, zY⟩ := HY.out
  obtain ⟨⟨qR0, qR1, qR2, qR3⟩, ⟨fR0, fR1, fR2, fR3⟩, zR⟩ := HR.out
  go_wp2_with fail
  go_at_call 51
  refine (l01Matrix_any e f g h _).mono ?_
  rintro e w2 ⟨rfl, hb⟩
  clear qX0 fX0 qX1 fX1 qX2 fX2 qX3 fX3 zX qY0 fY0 qY1 fY1 qY2 fY2 qY3 fY3 zY qR0 fR0 qR1 fR1 qR2 fR2 qR3 fR3 zR
  have HX := Lib.hid (HX.out.below hb)
  have HY := Lib.hid (HY.out.below hb)
  have HR := Lib.hid (HR.out.below hb)
  have HB := Lib.hid (below_after hb HB.out)
  clear hb
  obtain ⟨⟨qX0, qX1, qX2, qX3⟩, ⟨fX0, fX1, fX2, fX3⟩, zX⟩ := HX.out
  obtain ⟨⟨qY0, qY1, qY2, qY3⟩, ⟨fY0, fY1, fY2, fY3⟩, zY⟩ := HY.out
  obtain ⟨⟨qR0, qR1, qR2, qR3⟩, ⟨fR0, fR1, fR2, fR3⟩, zR⟩ := HR.out
  go_wp2_with fail
  go_at_call 64
  refine (HU.out _).mono ?_
  rintro e w3 ⟨rfl, hb⟩
  clear qX0 fX0 qX1 fX1 qX2 fX2 qX3 fX3 zX qY0 fY0 qY1 fY1 qY2 fY2 qY3 fY3 zY qR0 fR0 qR1 fR1 qR2 fR2 qR3 fR3 zR
  have HX := Lib.hid (HX.out.below hb)
  have HY := Lib.hid (HY.out.below hb)
  have HR := Lib.hid (HR.out.below hb)
  have HB := Lib.hid (below_after hb HB.out)
  clear hb
  have HXX : Hid (∀ W, Below w3.heap.size w3 W → Bk4 W GX a b c d ∧ Bk4 W GY e f g h ∧ Bk4 W GR 0 0 0 0) := fun W hW => ⟨HX.out.below hW, HY.out.below hW, HR.out.below hW⟩
  go_wp2_with fail
  refine wp_region_held_drew (S := fun W => Below w3.heap.size w3 W) (by kernel_rfl) ?_ (fun hHeld => ?_); focus ((try dsimp only); exact (Below.refl _ _).drew)
  have HX := Lib.hid (HX.out.below (Below.drew (Below.refl _ _)))
  have HY := Lib.hid (HY.out.below (Below.drew (Below.refl _ _)))
  have HR := Lib.hid (HR.out.below (Below.drew (Below.refl _ _)))
  have hHeld : Below w3.heap.size w3 _ := hHeld
  obtain ⟨wD, hwD⟩ : ∃ wD, w3.drew = wD := ⟨_, rfl⟩
  rw [hwD] at hHeld HX HY HR ⊢
  clear hwD
  (refine wpAnyH_take (i := 0) (v := ?_) rfl (by kernel_rfl) (by kernel_rfl) (by kernel_rfl) (fun _ _ _ h => h) (Or.inl ⟨rfl, ?_⟩) (by assumption) ?_; rotate_left; focus (intro W hSw; (try dsimp only at hSw); have hxx := HXX.out _ hSw; obtain ⟨hxX, hxY, hxR⟩ := hxx; obtain ⟨⟨iX0, iX1, iX2, iX3⟩, _, _⟩ := hxX; obtain ⟨⟨iY0, iY1, iY2, iY3⟩, _, _⟩ := hxY; obtain ⟨⟨iR0, iR1, iR2, iR3⟩, _, _⟩ := hxR; go_simp; try (with_reducible rfl))); (try simp only [Act.put, List.getElem_toArray, List.getElem_cons_succ, List.getElem_cons_zero, List.setIfInBounds_toArray, List.set_cons_zero, List.set_cons_succ])
  (refine wpAnyH_take (i := 2) (v := ?_) rfl (by kernel_rfl) (by kernel_rfl) (by kernel_rfl) (fun _ _ _ h => h) (Or.inl ⟨rfl, ?_⟩) (by assumption) ?_; rotate_left; focus (intro W hSw; (try dsimp only at hSw); have hxx := HXX.out _ hSw; obtain ⟨hxX, hxY, hxR⟩ := hxx; obtain ⟨⟨iX0, iX1, iX2, iX3⟩, _, _⟩ := hxX; obtain ⟨⟨iY0, iY1, iY2, iY3⟩, _, _⟩ := hxY; obtain ⟨⟨iR0, iR1, iR2, iR3⟩, _, _⟩ := hxR; go_simp; try (with_reducible rfl))); (try simp only [Act.put, List.getElem_toArray, List.getElem_cons_succ, List.getElem_cons_zero, List.setIfInBounds_toArray, List.set_cons_zero, List.set_cons_succ])
  refine wpAnyH_ready (rs := [1, 4]) (by kernel_rfl) (by simp) ?_; refine AllReadyH.cons rfl (fun K hK => ?_) (AllReadyH.cons rfl (fun K hK => ?_) AllReadyH.nil)
  · skip
    go_simp; (go_at_call 66; refine (HI.out _).mono ?_; rintro en ywr0 ⟨rfl, hb2⟩); have HX := Lib.hid (HX.out.below hb2); have HY := Lib.hid (HY.out.below hb2); have HR := Lib.hid (HR.out.below hb2); refine hK.out _ _ (below_after hb2 hHeld) (fun hHeld2 => ?_); clear hb2; (clear hHeld; rename _ => hHeld; clear hK K; have hHeld : Below w3.heap.size w3 _ := hHeld); (try simp only [Act.put, List.getElem_toArray, List.getElem_cons_succ, List.getElem_cons_zero, List.setIfInBounds_toArray, List.set_cons_zero, List.set_cons_succ])
    refine wpAnyH_ready (rs := [3, 4]) (by kernel_rfl) (by simp) ?_; refine AllReadyH.cons rfl (fun K hK => ?_) (AllReadyH.cons rfl (fun K hK => ?_) AllReadyH.nil)
    · skip
      go_simp; (go_at_call 65; refine (HM.out _).mono ?_; rintro en ywr1 ⟨rfl, hb2⟩); have HX := Lib.hid (HX.out.below hb2); have HY := Lib.hid (HY.out.below hb2); have HR := Lib.hid (HR.out.below hb2); refine hK.out _ _ (below_after hb2 hHeld) (fun hHeld2 => ?_); clear hb2; (clear hHeld; rename _ => hHeld; clear hK K; have hHeld : Below w3.heap.size w3 _ := hHeld); (try simp only [Act.put, List.getElem_toArray, List.getElem_cons_succ, List.getElem_cons_zero, List.setIfInBounds_toArray, List.set_cons_zero, List.set_cons_succ])
      refine wpAnyH_ready (rs := [4]) (by kernel_rfl) (by simp) ?_; refine AllReadyH.cons rfl (fun K hK => ?_) AllReadyH.nil
      go_simp; obtain ⟨GP, hGP⟩ : ∃ G, ywr1.heap.size = G := ⟨_, rfl⟩; have le_P : w3.heap.size ≤ GP := by rw [← hGP]; exact Below.size hHeld
      have ne_P_X : GP ≠ GX := by have := HX.out.2.2; omega
      have ne_X_P : GX ≠ GP := Ne.symm ne_P_X
      have ne_P_Y : GP ≠ GY := by have := HY.out.2.2; omega
      have ne_Y_P : GY ≠ GP := Ne.symm ne_P_Y
      have ne_P_R : GP ≠ GR := by have := HR.out.2.2; omega
      have ne_R_P : GR ≠ GP := Ne.symm ne_P_R
      have HX := Lib.hid (HX.out.below ((Below.refl _ _).alloc (Nat.le_refl _) (.cells #[.int .i64 0, .int .i64 0, .int .i64 0, .int .i64 0] 26))); have HY := Lib.hid (HY.out.below ((Below.refl _ _).alloc (Nat.le_refl _) (.cells #[.int .i64 0, .int .i64 0, .int .i64 0, .int .i64 0] 26))); have HR := Lib.hid (HR.out.below ((Below.refl _ _).alloc (Nat.le_refl _) (.cells #[.int .i64 0, .int .i64 0, .int .i64 0, .int .i64 0] 26))); skip
      have HP : Hid (Bk4 (ywr1.alloc (.cells #[.int .i64 0, .int .i64 0, .int .i64 0, .int .i64 0] 26)) GP 0 0 0 0) := by rw [← hGP]; exact bk4_new ywr1 0 0 0 0 _
      refine hK.out _ _ (Below.alloc hHeld (Below.size hHeld) _) (fun hHeld2 => ?_); (clear hHeld; rename _ => hHeld; clear hK K; have hHeld : Below w3.heap.size w3 _ := hHeld); (try simp only [Act.put, List.getElem_toArray, List.getElem_cons_succ, List.getElem_cons_zero, List.setIfInBounds_toArray, List.set_cons_zero, List.set_cons_succ])
      rw [hGP]; clear hGP; obtain ⟨ywr2, hwx⟩ : ∃ wx, ywr1.alloc (.cells #[.int .i64 0, .int .i64 0, .int .i64 0, .int .i64 0] 26) = wx := ⟨_, rfl⟩; rw [hwx] at HX HY HR HP hHeld ⊢; clear hwx
      refine wpAnyH_ready (rs := [5]) (by kernel_rfl) (by simp) ?_; refine AllReadyH.cons rfl (fun K hK => ?_) AllReadyH.nil
      obtain ⟨⟨a0, a1, a2, a3⟩, ⟨f0, f1, f2, f3⟩, az⟩ := HP.out; go_simp; clear a0 f0 a1 f1 a2 f2 a3 f3 az
      have HX := Lib.hid ((((HX.out.far ⟨GP, 0, none⟩ (.int .i64 p) (by show GX ≠ GP; exact ne_X_P)).far ⟨GP, 1, none⟩ (.int .i64 q) (by show GX ≠ GP; exact ne_X_P)).far ⟨GP, 2, none⟩ (.int .i64 r) (by show GX ≠ GP; exact ne_X_P)).far ⟨GP, 3, none⟩ (.int .i64 s) (by show GX ≠ GP; exact ne_X_P))
      have HY := Lib.hid ((((HY.out.far ⟨GP, 0, none⟩ (.int .i64 p) (by show GY ≠ GP; exact ne_Y_P)).far ⟨GP, 1, none⟩ (.int .i64 q) (by show GY ≠ GP; exact ne_Y_P)).far ⟨GP, 2, none⟩ (.int .i64 r) (by show GY ≠ GP; exact ne_Y_P)).far ⟨GP, 3, none⟩ (.int .i64 s) (by show GY ≠ GP; exact ne_Y_P))
      have HR := Lib.hid ((((HR.out.far ⟨GP, 0, none⟩ (.int .i64 p) (by show GR ≠ GP; exact ne_R_P)).far ⟨GP, 1, none⟩ (.int .i64 q) (by show GR ≠ GP; exact ne_R_P)).far ⟨GP, 2, none⟩ (.int .i64 r) (by show GR ≠ GP; exact ne_R_P)).far ⟨GP, 3, none⟩ (.int .i64 s) (by show GR ≠ GP; exact ne_R_P))
      have HP := Lib.hid ((((HP.out.set0 p).set1 q).set2 r).set3 s)
      refine hK.out _ _ (Below.setCell (Below.setCell (Below.setCell (Below.setCell hHeld (p := ⟨GP, 0, none⟩) le_P _) (p := ⟨GP, 1, none⟩) le_P _) (p := ⟨GP, 2, none⟩) le_P _) (p := ⟨GP, 3, none⟩) le_P _) (fun hHeld2 => ?_); (clear hHeld; rename _ => hHeld; clear hK K; have hHeld : Below w3.heap.size w3 _ := hHeld); (try simp only [Act.put, List.getElem_toArray, List.getElem_cons_succ, List.getElem_cons_zero, List.setIfInBounds_toArray, List.set_cons_zero, List.set_cons_succ])
      obtain ⟨ywr3, hwx⟩ : ∃ wx, (((ywr2.setCell ⟨GP, 0, none⟩ (.int .i64 p)).setCell ⟨GP, 1, none⟩ (.int .i64 q)).setCell ⟨GP, 2, none⟩ (.int .i64 r)).setCell ⟨GP, 3, none⟩ (.int .i64 s) = wx := ⟨_, rfl⟩; rw [hwx] at HX HY HR HP hHeld ⊢; clear hwx
      refine wpAnyH_done (by kernel_rfl) ?_ _
      have le_P : w.heap.size ≤ GP := Nat.le_trans HB.out.size le_P
      have HB := Lib.hid (HB.out.trans (hHeld.mono HB.out.size))
      clear hHeld HXX
      obtain ⟨⟨qX0, qX1, qX2, qX3⟩, ⟨fX0, fX1, fX2, fX3⟩, zX⟩ := HX.out
      obtain ⟨⟨qY0, qY1, qY2, qY3⟩, ⟨fY0, fY1, fY2, fY3⟩, zY⟩ := HY.out
      obtain ⟨⟨qR0, qR1, qR2, qR3⟩, ⟨fR0, fR1, fR2, fR3⟩, zR⟩ := HR.out
      obtain ⟨⟨qP0, qP1, qP2, qP3⟩, ⟨fP0, fP1, fP2, fP3⟩, zP⟩ := HP.out
      go_wp2_with fail
      go_at_call 51
      refine (l01Matrix_any p q r s _).mono ?_
      rintro e w54 ⟨rfl, hb⟩
      clear qX0 fX0 qX1 fX1 qX2 fX2 qX3 fX3 zX qY0 fY0 qY1 fY1 qY2 fY2 qY3 fY3 zY qR0 fR0 qR1 fR1 qR2 fR2 qR3 fR3 zR qP0 fP0 qP1 fP1 qP2 fP2 qP3 fP3 zP
      have HX := Lib.hid (HX.out.below hb)
      have HY := Lib.hid (HY.out.below hb)
      have HR := Lib.hid (HR.out.below hb)
      have HP := Lib.hid (HP.out.below hb)
      have HB := Lib.hid (below_after hb HB.out)
      clear hb
      obtain ⟨⟨qX0, qX1, qX2, qX3⟩, ⟨fX0, fX1, fX2, fX3⟩, zX⟩ := HX.out
      obtain ⟨⟨qY0, qY1, qY2, qY3⟩, ⟨fY0, fY1, fY2, fY3⟩, zY⟩ := HY.out
      obtain ⟨⟨qR0, qR1, qR2, qR3⟩, ⟨fR0, fR1, fR2, fR3⟩, zR⟩ := HR.out
      obtain ⟨⟨qP0, qP1, qP2, qP3⟩, ⟨fP0, fP1, fP2, fP3⟩, zP⟩ := HP.out
      go_wp2_with fail
      go_at_call 65
      refine (HE.out _).mono ?_
      rintro e w55 ⟨rfl, hb⟩
      clear qX0 fX0 qX1 fX1 qX2 fX2 qX3 fX3 zX qY0 fY0 qY1 fY1 qY2 fY2 qY3 fY3 zY qR0 fR0 qR1 fR1 qR2 fR2 qR3 fR3 zR qP0 fP0 qP1 fP1 qP2 fP2 qP3 fP3 zP
      have HX := Lib.hid (HX.out.below hb)
      have HY := Lib.hid (HY.out.below hb)
      have HR := Lib.hid (HR.out.below hb)
      have HP := Lib.hid (HP.out.below hb)
      have HB := Lib.hid (below_after hb HB.out)
      clear hb
      obtain ⟨⟨qX0, qX1, qX2, qX3⟩, ⟨fX0, fX1, fX2, fX3⟩, zX⟩ := HX.out
      obtain ⟨⟨qY0, qY1, qY2, qY3⟩, ⟨fY0, fY1, fY2, fY3⟩, zY⟩ := HY.out
      obtain ⟨⟨qR0, qR1, qR2, qR3⟩, ⟨fR0, fR1, fR2, fR3⟩, zR⟩ := HR.out
      obtain ⟨⟨qP0, qP1, qP2, qP3⟩, ⟨fP0, fP1, fP2, fP3⟩, zP⟩ := HP.out
      go_upto_region 9 with fail
      obtain ⟨GV, hGV⟩ : ∃ g, w55.heap.size = g := ⟨_, rfl⟩
      obtain ⟨w56, hw56⟩ : ∃ wx, wx = w55.alloc (.cells #[.int .i64 P, .int .i64 Q, .int .i64 R, .int .i64 S] 26) := ⟨_, rfl⟩
      rw [← hw56, hGV]
      have HV : Hid (Bk4 w56 GV P Q R S) := by rw [hw56, ← hGV]; exact bk4_new w55 P Q R S _
      have le_V : w.heap.size ≤ GV := by rw [← hGV]; exact HB.out.size
      have ne_V_X : GV ≠ GX := by have := HX.out.2.2; omega
      have ne_X_V : GX ≠ GV := Ne.symm ne_V_X
      have ne_V_Y : GV ≠ GY := by have := HY.out.2.2; omega
      have ne_Y_V : GY ≠ GV := Ne.symm ne_V_Y
      have ne_V_R : GV ≠ GR := by have := HR.out.2.2; omega
      have ne_R_V : GR ≠ GV := Ne.symm ne_V_R
      have ne_V_P : GV ≠ GP := by have := HP.out.2.2; omega
      have ne_P_V : GP ≠ GV := Ne.symm ne_V_P
      clear qX0 fX0 qX1 fX1 qX2 fX2 qX3 fX3 zX qY0 fY0 qY1 fY1 qY2 fY2 qY3 fY3 zY qR0 fR0 qR1 fR1 qR2 fR2 qR3 fR3 zR qP0 fP0 qP1 fP1 qP2 fP2 qP3 fP3 zP
      have HX := Lib.hid (HX.out.below ((Below.refl _ _).alloc (Nat.le_refl _) (.cells #[.int .i64 P, .int .i64 Q, .int .i64 R, .int .i64 S] 26)))
      have HY := Lib.hid (HY.out.below ((Below.refl _ _).alloc (Nat.le_refl _) (.cells #[.int .i64 P, .int .i64 Q, .int .i64 R, .int .i64 S] 26)))
      have HR := Lib.hid (HR.out.below ((Below.refl _ _).alloc (Nat.le_refl _) (.cells #[.int .i64 P, .int .i64 Q, .int .i64 R, .int .i64 S] 26)))
      have HP := Lib.hid (HP.out.below ((Below.refl _ _).alloc (Nat.le_refl _) (.cells #[.int .i64 P, .int .i64 Q, .int .i64 R, .int .i64 S] 26)))
      have HB := Lib.hid (Below.alloc HB.out HB.out.size (.cells #[.int .i64 P, .int .i64 Q, .int .i64 R, .int .i64 S] 26))
      rw [← hw56] at HX HY HR HP HB
      clear hw56 hGV
      obtain ⟨⟨qX0, qX1, qX2, qX3⟩, ⟨fX0, fX1, fX2, fX3⟩, zX⟩ := HX.out
      obtain ⟨⟨qY0, qY1, qY2, qY3⟩, ⟨fY0, fY1, fY2, fY3⟩, zY⟩ := HY.out
      obtain ⟨⟨qR0, qR1, qR2, qR3⟩, ⟨fR0, fR1, fR2, fR3⟩, zR⟩ := HR.out
      obtain ⟨⟨qP0, qP1, qP2, qP3⟩, ⟨fP0, fP1, fP2, fP3⟩, zP⟩ := HP.out
      obtain ⟨⟨qV0, qV1, qV2, qV3⟩, ⟨fV0, fV1, fV2, fV3⟩, zV⟩ := HV.out
      go_wp2_with fail
      go_at_call 51
      refine (l01Matrix_any P Q R S _).mono ?_
      rintro e w57 ⟨rfl, hb⟩
      clear qX0 fX0 qX1 fX1 qX2 fX2 qX3 fX3 zX qY0 fY0 qY1 fY1 qY2 fY2 qY3 fY3 zY qR0 fR0 qR1 fR1 qR2 fR2 qR3 fR3 zR qP0 fP0 qP1 fP1 qP2 fP2 qP3 fP3 zP qV0 fV0 qV1 fV1 qV2 fV2 qV3 fV3 zV
      have HX := Lib.hid (HX.out.below hb)
      have HY := Lib.hid (HY.out.below hb)
      have HR := Lib.hid (HR.out.below hb)
      have HP := Lib.hid (HP.out.below hb)
      have HV := Lib.hid (HV.out.below hb)
      have HB := Lib.hid (below_after hb HB.out)
      clear hb
      obtain ⟨⟨qX0, qX1, qX2, qX3⟩, ⟨fX0, fX1, fX2, fX3⟩, zX⟩ := HX.out
      obtain ⟨⟨qY0, qY1, qY2, qY3⟩, ⟨fY0, fY1, fY2, fY3⟩, zY⟩ := HY.out
      obtain ⟨⟨qR0, qR1, qR2, qR3⟩, ⟨fR0, fR1, fR2, fR3⟩, zR⟩ := HR.out
      obtain ⟨⟨qP0, qP1, qP2, qP3⟩, ⟨fP0, fP1, fP2, fP3⟩, zP⟩ := HP.out
      obtain ⟨⟨qV0, qV1, qV2, qV3⟩, ⟨fV0, fV1, fV2, fV3⟩, zV⟩ := HV.out
      go_wp2_with fail
      refine bodyPost_ret (v := .tuple #[.agg #[.int .i64 0, .int .i64 0, .int .i64 0, .int .i64 0], .int .i64 3]) (by simp (maxDischargeDepth := 8) [results, Try.results25, go_sem, *]) rfl ?_
      have hb := HB.out
      exact ⟨rfl, by (repeat' (first | (with_reducible exact Below.refl _ _) | (with_reducible refine Below.alloc ?_ ?_ _) | (with_reducible refine Below.setCell ?_ ?_ _) | (with_reducible refine Below.drew ?_) | (with_reducible refine below_drewN ?_ _) | (with_reducible assumption) | (with_reducible refine below_after (by with_reducible assumption) ?_) | go_size))⟩
    · skip
      go_simp; obtain ⟨GP, hGP⟩ : ∃ G, ywr0.heap.size = G := ⟨_, rfl⟩; have le_P : w3.heap.size ≤ GP := by rw [← hGP]; exact Below.size hHeld
      have ne_P_X : GP ≠ GX := by have := HX.out.2.2; omega
      have ne_X_P : GX ≠ GP := Ne.symm ne_P_X
      have ne_P_Y : GP ≠ GY := by have := HY.out.2.2; omega
      have ne_Y_P : GY ≠ GP := Ne.symm ne_P_Y
      have ne_P_R : GP ≠ GR := by have := HR.out.2.2; omega
      have ne_R_P : GR ≠ GP := Ne.symm ne_P_R
      have HX := Lib.hid (HX.out.below ((Below.refl _ _).alloc (Nat.le_refl _) (.cells #[.int .i64 0, .int .i64 0, .int .i64 0, .int .i64 0] 26))); have HY := Lib.hid (HY.out.below ((Below.refl _ _).alloc (Nat.le_refl _) (.cells #[.int .i64 0, .int .i64 0, .int .i64 0, .int .i64 0] 26))); have HR := Lib.hid (HR.out.below ((Below.refl _ _).alloc (Nat.le_refl _) (.cells #[.int .i64 0, .int .i64 0, .int .i64 0, .int .i64 0] 26))); skip
      have HP : Hid (Bk4 (ywr0.alloc (.cells #[.int .i64 0, .int .i64 0, .int .i64 0, .int .i64 0] 26)) GP 0 0 0 0) := by rw [← hGP]; exact bk4_new ywr0 0 0 0 0 _
      refine hK.out _ _ (Below.alloc hHeld (Below.size hHeld) _) (fun hHeld2 => ?_); (clear hHeld; rename _ => hHeld; clear hK K; have hHeld : Below w3.heap.size w3 _ := hHeld); (try simp only [Act.put, List.getElem_toArray, List.getElem_cons_succ, List.getElem_cons_zero, List.setIfInBounds_toArray, List.set_cons_zero, List.set_cons_succ])
      rw [hGP]; clear hGP; obtain ⟨ywr1, hwx⟩ : ∃ wx, ywr0.alloc (.cells #[.int .i64 0, .int .i64 0, .int .i64 0, .int .i64 0] 26) = wx := ⟨_, rfl⟩; rw [hwx] at HX HY HR HP hHeld ⊢; clear hwx
      refine wpAnyH_ready (rs := [3]) (by kernel_rfl) (by simp) ?_; refine AllReadyH.cons rfl (fun K hK => ?_) AllReadyH.nil
      go_simp; (go_at_call 65; refine (HM.out _).mono ?_; rintro en ywr2 ⟨rfl, hb2⟩); have HX := Lib.hid (HX.out.below hb2); have HY := Lib.hid (HY.out.below hb2); have HR := Lib.hid (HR.out.below hb2); have HP := Lib.hid (HP.out.below hb2); refine hK.out _ _ (below_after hb2 hHeld) (fun hHeld2 => ?_); clear hb2; (clear hHeld; rename _ => hHeld; clear hK K; have hHeld : Below w3.heap.size w3 _ := hHeld); (try simp only [Act.put, List.getElem_toArray, List.getElem_cons_succ, List.getElem_cons_zero, List.setIfInBounds_toArray, List.set_cons_zero, List.set_cons_succ])
      refine wpAnyH_ready (rs := [5]) (by kernel_rfl) (by simp) ?_; refine AllReadyH.cons rfl (fun K hK => ?_) AllReadyH.nil
      obtain ⟨⟨a0, a1, a2, a3⟩, ⟨f0, f1, f2, f3⟩, az⟩ := HP.out; go_simp; clear a0 f0 a1 f1 a2 f2 a3 f3 az
      have HX := Lib.hid ((((HX.out.far ⟨GP, 0, none⟩ (.int .i64 p) (by show GX ≠ GP; exact ne_X_P)).far ⟨GP, 1, none⟩ (.int .i64 q) (by show GX ≠ GP; exact ne_X_P)).far ⟨GP, 2, none⟩ (.int .i64 r) (by show GX ≠ GP; exact ne_X_P)).far ⟨GP, 3, none⟩ (.int .i64 s) (by show GX ≠ GP; exact ne_X_P))
      have HY := Lib.hid ((((HY.out.far ⟨GP, 0, none⟩ (.int .i64 p) (by show GY ≠ GP; exact ne_Y_P)).far ⟨GP, 1, none⟩ (.int .i64 q) (by show GY ≠ GP; exact ne_Y_P)).far ⟨GP, 2, none⟩ (.int .i64 r) (by show GY ≠ GP; exact ne_Y_P)).far ⟨GP, 3, none⟩ (.int .i64 s) (by show GY ≠ GP; exact ne_Y_P))
      have HR := Lib.hid ((((HR.out.far ⟨GP, 0, none⟩ (.int .i64 p) (by show GR ≠ GP; exact ne_R_P)).far ⟨GP, 1, none⟩ (.int .i64 q) (by show GR ≠ GP; exact ne_R_P)).far ⟨GP, 2, none⟩ (.int .i64 r) (by show GR ≠ GP; exact ne_R_P)).far ⟨GP, 3, none⟩ (.int .i64 s) (by show GR ≠ GP; exact ne_R_P))
      have HP := Lib.hid ((((HP.out.set0 p).set1 q).set2 r).set3 s)
      refine hK.out _ _ (Below.setCell (Below.setCell (Below.setCell (Below.setCell hHeld (p := ⟨GP, 0, none⟩) le_P _) (p := ⟨GP, 1, none⟩) le_P _) (p := ⟨GP, 2, none⟩) le_P _) (p := ⟨GP, 3, none⟩) le_P _) (fun hHeld2 => ?_); (clear hHeld; rename _ => hHeld; clear hK K; have hHeld : Below w3.heap.size w3 _ := hHeld); (try simp only [Act.put, List.getElem_toArray, List.getElem_cons_succ, List.getElem_cons_zero, List.setIfInBounds_toArray, List.set_cons_zero, List.set_cons_succ])
      obtain ⟨ywr3, hwx⟩ : ∃ wx, (((ywr2.setCell ⟨GP, 0, none⟩ (.int .i64 p)).setCell ⟨GP, 1, none⟩ (.int .i64 q)).setCell ⟨GP, 2, none⟩ (.int .i64 r)).setCell ⟨GP, 3, none⟩ (.int .i64 s) = wx := ⟨_, rfl⟩; rw [hwx] at HX HY HR HP hHeld ⊢; clear hwx
      refine wpAnyH_done (by kernel_rfl) ?_ _
      have le_P : w.heap.size ≤ GP := Nat.le_trans HB.out.size le_P
      have HB := Lib.hid (HB.out.trans (hHeld.mono HB.out.size))
      clear hHeld HXX
      obtain ⟨⟨qX0, qX1, qX2, qX3⟩, ⟨fX0, fX1, fX2, fX3⟩, zX⟩ := HX.out
      obtain ⟨⟨qY0, qY1, qY2, qY3⟩, ⟨fY0, fY1, fY2, fY3⟩, zY⟩ := HY.out
      obtain ⟨⟨qR0, qR1, qR2, qR3⟩, ⟨fR0, fR1, fR2, fR3⟩, zR⟩ := HR.out
      obtain ⟨⟨qP0, qP1, qP2, qP3⟩, ⟨fP0, fP1, fP2, fP3⟩, zP⟩ := HP.out
      go_wp2_with fail
      go_at_call 51
      refine (l01Matrix_any p q r s _).mono ?_
      rintro e w54 ⟨rfl, hb⟩
      clear qX0 fX0 qX1 fX1 qX2 fX2 qX3 fX3 zX qY0 fY0 qY1 fY1 qY2 fY2 qY3 fY3 zY qR0 fR0 qR1 fR1 qR2 fR2 qR3 fR3 zR qP0 fP0 qP1 fP1 qP2 fP2 qP3 fP3 zP
      have HX := Lib.hid (HX.out.below hb)
      have HY := Lib.hid (HY.out.below hb)
      have HR := Lib.hid (HR.out.below hb)
      have HP := Lib.hid (HP.out.below hb)
      have HB := Lib.hid (below_after hb HB.out)
      clear hb
      obtain ⟨⟨qX0, qX1, qX2, qX3⟩, ⟨fX0, fX1, fX2, fX3⟩, zX⟩ := HX.out
      obtain ⟨⟨qY0, qY1, qY2, qY3⟩, ⟨fY0, fY1, fY2, fY3⟩, zY⟩ := HY.out
      obtain ⟨⟨qR0, qR1, qR2, qR3⟩, ⟨fR0, fR1, fR2, fR3⟩, zR⟩ := HR.out
      obtain ⟨⟨qP0, qP1, qP2, qP3⟩, ⟨fP0, fP1, fP2, fP3⟩, zP⟩ := HP.out
      go_wp2_with fail
      go_at_call 65
      refine (HE.out _).mono ?_
      rintro e w55 ⟨rfl, hb⟩
      clear qX0 fX0 qX1 fX1 qX2 fX2 qX3 fX3 zX qY0 fY0 qY1 fY1 qY2 fY2 qY3 fY3 zY qR0 fR0 qR1 fR1 qR2 fR2 qR3 fR3 zR qP0 fP0 qP1 fP1 qP2 fP2 qP3 fP3 zP
      have HX := Lib.hid (HX.out.below hb)
      have HY := Lib.hid (HY.out.below hb)
      have HR := Lib.hid (HR.out.below hb)
      have HP := Lib.hid (HP.out.below hb)
      have HB := Lib.hid (below_after hb HB.out)
      clear hb
      obtain ⟨⟨qX0, qX1, qX2, qX3⟩, ⟨fX0, fX1, fX2, fX3⟩, zX⟩ := HX.out
      obtain ⟨⟨qY0, qY1, qY2, qY3⟩, ⟨fY0, fY1, fY2, fY3⟩, zY⟩ := HY.out
      obtain ⟨⟨qR0, qR1, qR2, qR3⟩, ⟨fR0, fR1, fR2, fR3⟩, zR⟩ := HR.out
      obtain ⟨⟨qP0, qP1, qP2, qP3⟩, ⟨fP0, fP1, fP2, fP3⟩, zP⟩ := HP.out
      go_upto_region 9 with fail
      obtain ⟨GV, hGV⟩ : ∃ g, w55.heap.size = g := ⟨_, rfl⟩
      obtain ⟨w56, hw56⟩ : ∃ wx, wx = w55.alloc (.cells #[.int .i64 P, .int .i64 Q, .int .i64 R, .int .i64 S] 26) := ⟨_, rfl⟩
      rw [← hw56, hGV]
      have HV : Hid (Bk4 w56 GV P Q R S) := by rw [hw56, ← hGV]; exact bk4_new w55 P Q R S _
      have le_V : w.heap.size ≤ GV := by rw [← hGV]; exact HB.out.size
      have ne_V_X : GV ≠ GX := by have := HX.out.2.2; omega
      have ne_X_V : GX ≠ GV := Ne.symm ne_V_X
      have ne_V_Y : GV ≠ GY := by have := HY.out.2.2; omega
      have ne_Y_V : GY ≠ GV := Ne.symm ne_V_Y
      have ne_V_R : GV ≠ GR := by have := HR.out.2.2; omega
      have ne_R_V : GR ≠ GV := Ne.symm ne_V_R
      have ne_V_P : GV ≠ GP := by have := HP.out.2.2; omega
      have ne_P_V : GP ≠ GV := Ne.symm ne_V_P
      clear qX0 fX0 qX1 fX1 qX2 fX2 qX3 fX3 zX qY0 fY0 qY1 fY1 qY2 fY2 qY3 fY3 zY qR0 fR0 qR1 fR1 qR2 fR2 qR3 fR3 zR qP0 fP0 qP1 fP1 qP2 fP2 qP3 fP3 zP
      have HX := Lib.hid (HX.out.below ((Below.refl _ _).alloc (Nat.le_refl _) (.cells #[.int .i64 P, .int .i64 Q, .int .i64 R, .int .i64 S] 26)))
      have HY := Lib.hid (HY.out.below ((Below.refl _ _).alloc (Nat.le_refl _) (.cells #[.int .i64 P, .int .i64 Q, .int .i64 R, .int .i64 S] 26)))
      have HR := Lib.hid (HR.out.below ((Below.refl _ _).alloc (Nat.le_refl _) (.cells #[.int .i64 P, .int .i64 Q, .int .i64 R, .int .i64 S] 26)))
      have HP := Lib.hid (HP.out.below ((Below.refl _ _).alloc (Nat.le_refl _) (.cells #[.int .i64 P, .int .i64 Q, .int .i64 R, .int .i64 S] 26)))
      have HB := Lib.hid (Below.alloc HB.out HB.out.size (.cells #[.int .i64 P, .int .i64 Q, .int .i64 R, .int .i64 S] 26))
      rw [← hw56] at HX HY HR HP HB
      clear hw56 hGV
      obtain ⟨⟨qX0, qX1, qX2, qX3⟩, ⟨fX0, fX1, fX2, fX3⟩, zX⟩ := HX.out
      obtain ⟨⟨qY0, qY1, qY2, qY3⟩, ⟨fY0, fY1, fY2, fY3⟩, zY⟩ := HY.out
      obtain ⟨⟨qR0, qR1, qR2, qR3⟩, ⟨fR0, fR1, fR2, fR3⟩, zR⟩ := HR.out
      obtain ⟨⟨qP0, qP1, qP2, qP3⟩, ⟨fP0, fP1, fP2, fP3⟩, zP⟩ := HP.out
      obtain ⟨⟨qV0, qV1, qV2, qV3⟩, ⟨fV0, fV1, fV2, fV3⟩, zV⟩ := HV.out
      go_wp2_with fail
      go_at_call 51
      refine (l01Matrix_any P Q R S _).mono ?_
      rintro e w57 ⟨rfl, hb⟩
      clear qX0 fX0 qX1 fX1 qX2 fX2 qX3 fX3 zX qY0 fY0 qY1 fY1 qY2 fY2 qY3 fY3 zY qR0 fR0 qR1 fR1 qR2 fR2 qR3 fR3 zR qP0 fP0 qP1 fP1 qP2 fP2 qP3 fP3 zP qV0 fV0 qV1 fV1 qV2 fV2 qV3 fV3 zV
      have HX := Lib.hid (HX.out.below hb)
      have HY := Lib.hid (HY.out.below hb)
      have HR := Lib.hid (HR.out.below hb)
      have HP := Lib.hid (HP.out.below hb)
      have HV := Lib.hid (HV.out.below hb)
      have HB := Lib.hid (below_after hb HB.out)
      clear hb
      obtain ⟨⟨qX0, qX1, qX2, qX3⟩, ⟨fX0, fX1, fX2, fX3⟩, zX⟩ := HX.out
      obtain ⟨⟨qY0, qY1, qY2, qY3⟩, ⟨fY0, fY1, fY2, fY3⟩, zY⟩ := HY.out
      obtain ⟨⟨qR0, qR1, qR2, qR3⟩, ⟨fR0, fR1, fR2, fR3⟩, zR⟩ := HR.out
      obtain ⟨⟨qP0, qP1, qP2, qP3⟩, ⟨fP0, fP1, fP2, fP3⟩, zP⟩ := HP.out
      obtain ⟨⟨qV0, qV1, qV2, qV3⟩, ⟨fV0, fV1, fV2, fV3⟩, zV⟩ := HV.out
      go_wp2_with fail
      refine bodyPost_ret (v := .tuple #[.agg #[.int .i64 0, .int .i64 0, .int .i64 0, .int .i64 0], .int .i64 3]) (by simp (maxDischargeDepth := 8) [results, Try.results25, go_sem, *]) rfl ?_
      have hb := HB.out
      exact ⟨rfl, by (repeat' (first | (with_reducible exact Below.refl _ _) | (with_reducible refine Below.alloc ?_ ?_ _) | (with_reducible refine Below.setCell ?_ ?_ _) | (with_reducible refine Below.drew ?_) | (with_reducible refine below_drewN ?_ _) | (with_reducible assumption) | (with_reducible refine below_after (by with_reducible assumption) ?_) | go_size))⟩
  · skip
    go_simp; obtain ⟨GP, hGP⟩ : ∃ G, wD.heap.size = G := ⟨_, rfl⟩; have le_P : w3.heap.size ≤ GP := by rw [← hGP]; exact Below.size hHeld
    have ne_P_X : GP ≠ GX := by have := HX.out.2.2; omega
    have ne_X_P : GX ≠ GP := Ne.symm ne_P_X
    have ne_P_Y : GP ≠ GY := by have := HY.out.2.2; omega
    have ne_Y_P : GY ≠ GP := Ne.symm ne_P_Y
    have ne_P_R : GP ≠ GR := by have := HR.out.2.2; omega
    have ne_R_P : GR ≠ GP := Ne.symm ne_P_R
    have HX := Lib.hid (HX.out.below ((Below.refl _ _).alloc (Nat.le_refl _) (.cells #[.int .i64 0, .int .i64 0, .int .i64 0, .int .i64 0] 26))); have HY := Lib.hid (HY.out.below ((Below.refl _ _).alloc (Nat.le_refl _) (.cells #[.int .i64 0, .int .i64 0, .int .i64 0, .int .i64 0] 26))); have HR := Lib.hid (HR.out.below ((Below.refl _ _).alloc (Nat.le_refl _) (.cells #[.int .i64 0, .int .i64 0, .int .i64 0, .int .i64 0] 26))); skip
    have HP : Hid (Bk4 (wD.alloc (.cells #[.int .i64 0, .int .i64 0, .int .i64 0, .int .i64 0] 26)) GP 0 0 0 0) := by rw [← hGP]; exact bk4_new wD 0 0 0 0 _
    refine hK.out _ _ (Below.alloc hHeld (Below.size hHeld) _) (fun hHeld2 => ?_); (clear hHeld; rename _ => hHeld; clear hK K; have hHeld : Below w3.heap.size w3 _ := hHeld); (try simp only [Act.put, List.getElem_toArray, List.getElem_cons_succ, List.getElem_cons_zero, List.setIfInBounds_toArray, List.set_cons_zero, List.set_cons_succ])
    rw [hGP]; clear hGP; obtain ⟨ywr0, hwx⟩ : ∃ wx, wD.alloc (.cells #[.int .i64 0, .int .i64 0, .int .i64 0, .int .i64 0] 26) = wx := ⟨_, rfl⟩; rw [hwx] at HX HY HR HP hHeld ⊢; clear hwx
    refine wpAnyH_ready (rs := [1]) (by kernel_rfl) (by simp) ?_; refine AllReadyH.cons rfl (fun K hK => ?_) AllReadyH.nil
    go_simp; (go_at_call 66; refine (HI.out _).mono ?_; rintro en ywr1 ⟨rfl, hb2⟩); have HX := Lib.hid (HX.out.below hb2); have HY := Lib.hid (HY.out.below hb2); have HR := Lib.hid (HR.out.below hb2); have HP := Lib.hid (HP.out.below hb2); refine hK.out _ _ (below_after hb2 hHeld) (fun hHeld2 => ?_); clear hb2; (clear hHeld; rename _ => hHeld; clear hK K; have hHeld : Below w3.heap.size w3 _ := hHeld); (try simp only [Act.put, List.getElem_toArray, List.getElem_cons_succ, List.getElem_cons_zero, List.setIfInBounds_toArray, List.set_cons_zero, List.set_cons_succ])
    refine wpAnyH_ready (rs := [3]) (by kernel_rfl) (by simp) ?_; refine AllReadyH.cons rfl (fun K hK => ?_) AllReadyH.nil
    go_simp; (go_at_call 65; refine (HM.out _).mono ?_; rintro en ywr2 ⟨rfl, hb2⟩); have HX := Lib.hid (HX.out.below hb2); have HY := Lib.hid (HY.out.below hb2); have HR := Lib.hid (HR.out.below hb2); have HP := Lib.hid (HP.out.below hb2); refine hK.out _ _ (below_after hb2 hHeld) (fun hHeld2 => ?_); clear hb2; (clear hHeld; rename _ => hHeld; clear hK K; have hHeld : Below w3.heap.size w3 _ := hHeld); (try simp only [Act.put, List.getElem_toArray, List.getElem_cons_succ, List.getElem_cons_zero, List.setIfInBounds_toArray, List.set_cons_zero, List.set_cons_succ])
    refine wpAnyH_ready (rs := [5]) (by kernel_rfl) (by simp) ?_; refine AllReadyH.cons rfl (fun K hK => ?_) AllReadyH.nil
    obtain ⟨⟨a0, a1, a2, a3⟩, ⟨f0, f1, f2, f3⟩, az⟩ := HP.out; go_simp; clear a0 f0 a1 f1 a2 f2 a3 f3 az
    have HX := Lib.hid ((((HX.out.far ⟨GP, 0, none⟩ (.int .i64 p) (by show GX ≠ GP; exact ne_X_P)).far ⟨GP, 1, none⟩ (.int .i64 q) (by show GX ≠ GP; exact ne_X_P)).far ⟨GP, 2, none⟩ (.int .i64 r) (by show GX ≠ GP; exact ne_X_P)).far ⟨GP, 3, none⟩ (.int .i64 s) (by show GX ≠ GP; exact ne_X_P))
    have HY := Lib.hid ((((HY.out.far ⟨GP, 0, none⟩ (.int .i64 p) (by show GY ≠ GP; exact ne_Y_P)).far ⟨GP, 1, none⟩ (.int .i64 q) (by show GY ≠ GP; exact ne_Y_P)).far ⟨GP, 2, none⟩ (.int .i64 r) (by show GY ≠ GP; exact ne_Y_P)).far ⟨GP, 3, none⟩ (.int .i64 s) (by show GY ≠ GP; exact ne_Y_P))
    have HR := Lib.hid ((((HR.out.far ⟨GP, 0, none⟩ (.int .i64 p) (by show GR ≠ GP; exact ne_R_P)).far ⟨GP, 1, none⟩ (.int .i64 q) (by show GR ≠ GP; exact ne_R_P)).far ⟨GP, 2, none⟩ (.int .i64 r) (by show GR ≠ GP; exact ne_R_P)).far ⟨GP, 3, none⟩ (.int .i64 s) (by show GR ≠ GP; exact ne_R_P))
    have HP := Lib.hid ((((HP.out.set0 p).set1 q).set2 r).set3 s)
    refine hK.out _ _ (Below.setCell (Below.setCell (Below.setCell (Below.setCell hHeld (p := ⟨GP, 0, none⟩) le_P _) (p := ⟨GP, 1, none⟩) le_P _) (p := ⟨GP, 2, none⟩) le_P _) (p := ⟨GP, 3, none⟩) le_P _) (fun hHeld2 => ?_); (clear hHeld; rename _ => hHeld; clear hK K; have hHeld : Below w3.heap.size w3 _ := hHeld); (try simp only [Act.put, List.getElem_toArray, List.getElem_cons_succ, List.getElem_cons_zero, List.setIfInBounds_toArray, List.set_cons_zero, List.set_cons_succ])
    obtain ⟨ywr3, hwx⟩ : ∃ wx, (((ywr2.setCell ⟨GP, 0, none⟩ (.int .i64 p)).setCell ⟨GP, 1, none⟩ (.int .i64 q)).setCell ⟨GP, 2, none⟩ (.int .i64 r)).setCell ⟨GP, 3, none⟩ (.int .i64 s) = wx := ⟨_, rfl⟩; rw [hwx] at HX HY HR HP hHeld ⊢; clear hwx
    refine wpAnyH_done (by kernel_rfl) ?_ _
    have le_P : w.heap.size ≤ GP := Nat.le_trans HB.out.size le_P
    have HB := Lib.hid (HB.out.trans (hHeld.mono HB.out.size))
    clear hHeld HXX
    obtain ⟨⟨qX0, qX1, qX2, qX3⟩, ⟨fX0, fX1, fX2, fX3⟩, zX⟩ := HX.out
    obtain ⟨⟨qY0, qY1, qY2, qY3⟩, ⟨fY0, fY1, fY2, fY3⟩, zY⟩ := HY.out
    obtain ⟨⟨qR0, qR1, qR2, qR3⟩, ⟨fR0, fR1, fR2, fR3⟩, zR⟩ := HR.out
    obtain ⟨⟨qP0, qP1, qP2, qP3⟩, ⟨fP0, fP1, fP2, fP3⟩, zP⟩ := HP.out
    go_wp2_with fail
    go_at_call 51
    refine (l01Matrix_any p q r s _).mono ?_
    rintro e w54 ⟨rfl, hb⟩
    clear qX0 fX0 qX1 fX1 qX2 fX2 qX3 fX3 zX qY0 fY0 qY1 fY1 qY2 fY2 qY3 fY3 zY qR0 fR0 qR1 fR1 qR2 fR2 qR3 fR3 zR qP0 fP0 qP1 fP1 qP2 fP2 qP3 fP3 zP
    have HX := Lib.hid (HX.out.below hb)
    have HY := Lib.hid (HY.out.below hb)
    have HR := Lib.hid (HR.out.below hb)
    have HP := Lib.hid (HP.out.below hb)
    have HB := Lib.hid (below_after hb HB.out)
    clear hb
    obtain ⟨⟨qX0, qX1, qX2, qX3⟩, ⟨fX0, fX1, fX2, fX3⟩, zX⟩ := HX.out
    obtain ⟨⟨qY0, qY1, qY2, qY3⟩, ⟨fY0, fY1, fY2, fY3⟩, zY⟩ := HY.out
    obtain ⟨⟨qR0, qR1, qR2, qR3⟩, ⟨fR0, fR1, fR2, fR3⟩, zR⟩ := HR.out
    obtain ⟨⟨qP0, qP1, qP2, qP3⟩, ⟨fP0, fP1, fP2, fP3⟩, zP⟩ := HP.out
    go_wp2_with fail
    go_at_call 65
    refine (HE.out _).mono ?_
    rintro e w55 ⟨rfl, hb⟩
    clear qX0 fX0 qX1 fX1 qX2 fX2 qX3 fX3 zX qY0 fY0 qY1 fY1 qY2 fY2 qY3 fY3 zY qR0 fR0 qR1 fR1 qR2 fR2 qR3 fR3 zR qP0 fP0 qP1 fP1 qP2 fP2 qP3 fP3 zP
    have HX := Lib.hid (HX.out.below hb)
    have HY := Lib.hid (HY.out.below hb)
    have HR := Lib.hid (HR.out.below hb)
    have HP := Lib.hid (HP.out.below hb)
    have HB := Lib.hid (below_after hb HB.out)
    clear hb
    obtain ⟨⟨qX0, qX1, qX2, qX3⟩, ⟨fX0, fX1, fX2, fX3⟩, zX⟩ := HX.out
    obtain ⟨⟨qY0, qY1, qY2, qY3⟩, ⟨fY0, fY1, fY2, fY3⟩, zY⟩ := HY.out
    obtain ⟨⟨qR0, qR1, qR2, qR3⟩, ⟨fR0, fR1, fR2, fR3⟩, zR⟩ := HR.out
    obtain ⟨⟨qP0, qP1, qP2, qP3⟩, ⟨fP0, fP1, fP2, fP3⟩, zP⟩ := HP.out
    go_upto_region 9 with fail
    obtain ⟨GV, hGV⟩ : ∃ g, w55.heap.size = g := ⟨_, rfl⟩
    obtain ⟨w56, hw56⟩ : ∃ wx, wx = w55.alloc (.cells #[.int .i64 P, .int .i64 Q, .int .i64 R, .int .i64 S] 26) := ⟨_, rfl⟩
    rw [← hw56, hGV]
    have HV : Hid (Bk4 w56 GV P Q R S) := by rw [hw56, ← hGV]; exact bk4_new w55 P Q R S _
    have le_V : w.heap.size ≤ GV := by rw [← hGV]; exact HB.out.size
    have ne_V_X : GV ≠ GX := by have := HX.out.2.2; omega
    have ne_X_V : GX ≠ GV := Ne.symm ne_V_X
    have ne_V_Y : GV ≠ GY := by have := HY.out.2.2; omega
    have ne_Y_V : GY ≠ GV := Ne.symm ne_V_Y
    have ne_V_R : GV ≠ GR := by have := HR.out.2.2; omega
    have ne_R_V : GR ≠ GV := Ne.symm ne_V_R
    have ne_V_P : GV ≠ GP := by have := HP.out.2.2; omega
    have ne_P_V : GP ≠ GV := Ne.symm ne_V_P
    clear qX0 fX0 qX1 fX1 qX2 fX2 qX3 fX3 zX qY0 fY0 qY1 fY1 qY2 fY2 qY3 fY3 zY qR0 fR0 qR1 fR1 qR2 fR2 qR3 fR3 zR qP0 fP0 qP1 fP1 qP2 fP2 qP3 fP3 zP
    have HX := Lib.hid (HX.out.below ((Below.refl _ _).alloc (Nat.le_refl _) (.cells #[.int .i64 P, .int .i64 Q, .int .i64 R, .int .i64 S] 26)))
    have HY := Lib.hid (HY.out.below ((Below.refl _ _).alloc (Nat.le_refl _) (.cells #[.int .i64 P, .int .i64 Q, .int .i64 R, .int .i64 S] 26)))
    have HR := Lib.hid (HR.out.below ((Below.refl _ _).alloc (Nat.le_refl _) (.cells #[.int .i64 P, .int .i64 Q, .int .i64 R, .int .i64 S] 26)))
    have HP := Lib.hid (HP.out.below ((Below.refl _ _).alloc (Nat.le_refl _) (.cells #[.int .i64 P, .int .i64 Q, .int .i64 R, .int .i64 S] 26)))
    have HB := Lib.hid (Below.alloc HB.out HB.out.size (.cells #[.int .i64 P, .int .i64 Q, .int .i64 R, .int .i64 S] 26))
    rw [← hw56] at HX HY HR HP HB
    clear hw56 hGV
    obtain ⟨⟨qX0, qX1, qX2, qX3⟩, ⟨fX0, fX1, fX2, fX3⟩, zX⟩ := HX.out
    obtain ⟨⟨qY0, qY1, qY2, qY3⟩, ⟨fY0, fY1, fY2, fY3⟩, zY⟩ := HY.out
    obtain ⟨⟨qR0, qR1, qR2, qR3⟩, ⟨fR0, fR1, fR2, fR3⟩, zR⟩ := HR.out
    obtain ⟨⟨qP0, qP1, qP2, qP3⟩, ⟨fP0, fP1, fP2, fP3⟩, zP⟩ := HP.out
    obtain ⟨⟨qV0, qV1, qV2, qV3⟩, ⟨fV0, fV1, fV2, fV3⟩, zV⟩ := HV.out
    go_wp2_with fail
    go_at_call 51
    refine (l01Matrix_any P Q R S _).mono ?_
    rintro e w57 ⟨rfl, hb⟩
    clear qX0 fX0 qX1 fX1 qX2 fX2 qX3 fX3 zX qY0 fY0 qY1 fY1 qY2 fY2 qY3 fY3 zY qR0 fR0 qR1 fR1 qR2 fR2 qR3 fR3 zR qP0 fP0 qP1 fP1 qP2 fP2 qP3 fP3 zP qV0 fV0 qV1 fV1 qV2 fV2 qV3 fV3 zV
    have HX := Lib.hid (HX.out.below hb)
    have HY := Lib.hid (HY.out.below hb)
    have HR := Lib.hid (HR.out.below hb)
    have HP := Lib.hid (HP.out.below hb)
    have HV := Lib.hid (HV.out.below hb)
    have HB := Lib.hid (below_after hb HB.out)
    clear hb
    obtain ⟨⟨qX0, qX1, qX2, qX3⟩, ⟨fX0, fX1, fX2, fX3⟩, zX⟩ := HX.out
    obtain ⟨⟨qY0, qY1, qY2, qY3⟩, ⟨fY0, fY1, fY2, fY3⟩, zY⟩ := HY.out
    obtain ⟨⟨qR0, qR1, qR2, qR3⟩, ⟨fR0, fR1, fR2, fR3⟩, zR⟩ := HR.out
    obtain ⟨⟨qP0, qP1, qP2, qP3⟩, ⟨fP0, fP1, fP2, fP3⟩, zP⟩ := HP.out
    obtain ⟨⟨qV0, qV1, qV2, qV3⟩, ⟨fV0, fV1, fV2, fV3⟩, zV⟩ := HV.out
    go_wp2_with fail
    refine bodyPost_ret (v := .tuple #[.agg #[.int .i64 0, .int .i64 0, .int .i64 0, .int .i64 0], .int .i64 3]) (by simp (maxDischargeDepth := 8) [results, Try.results25, go_sem, *]) rfl ?_
    have hb := HB.out
    exact ⟨rfl, by (repeat' (first | (with_reducible exact Below.refl _ _) | (with_reducible refine Below.alloc ?_ ?_ _) | (with_reducible refine Below.setCell ?_ ?_ _) | (with_reducible refine Below.drew ?_) | (with_reducible refine below_drewN ?_ _) | (with_reducible assumption) | (with_reducible refine below_after (by with_reducible assumption) ?_) | go_size))⟩
set_option maxHeartbeats 3200000 in
theorem spec_Conj_end (a b c d e f g h i j k l p q r s P Q R S : Int) (w : World) (hm : isMx a b c d = true) (h1 : isMx e f g h = true) (h2 : isMx p q r s = true) (h3 : isMx P Q R S = true) (HU : Hid (∀ w, Calls Try.prog 64 #[.agg #[.int .i64 e, .int .i64 f, .int .i64 g, .int .i64 h]] w fun e w' => e = .returned (.bool true) ∧ Below w.heap.size w w')) (HI : Hid (∀ w, Calls Try.prog 66 #[.agg #[.int .i64 e, .int .i64 f, .int .i64 g, .int .i64 h]] w fun e w' => e = .returned (.agg #[.int .i64 i, .int .i64 j, .int .i64 k, .int .i64 l]) ∧ Below w.heap.size w w')) (HM : Hid (∀ w, Calls Try.prog 65 #[.agg #[.int .i64 i, .int .i64 j, .int .i64 k, .int .i64 l], .agg #[.int .i64 a, .int .i64 b, .int .i64 c, .int .i64 d]] w fun e w' => e = .returned (.agg #[.int .i64 p, .int .i64 q, .int .i64 r, .int .i64 s]) ∧ Below w.heap.size w w')) (HE : Hid (∀ w, Calls Try.prog 65 #[.agg #[.int .i64 p, .int .i64 q, .int .i64 r, .int .i64 s], .agg #[.int .i64 e, .int .i64 f, .int .i64 g, .int .i64 h]] w fun e w' => e = .returned (.agg #[.int .i64 P, .int .i64 Q, .int .i64 R, .int .i64 S]) ∧ Below w.heap.size w w')) : Calls Try.prog 25 #[.agg #[.int .i64 a, .int .i64 b, .int .i64 c, .int .i64 d], .agg #[.int .i64 e, .int .i64 f, .int .i64 g, .int .i64 h]] w fun e1 w' => e1 = .returned (.tuple #[.agg #[.int .i64 P, .int .i64 Q, .int .i64 R, .int .i64 S], .int .i64 0]) ∧ Below w.heap.size w w' := by
  obtain ⟨GX, hG⟩ : ∃ G, w.heap.size = G := ⟨_, rfl⟩
  have HG := Lib.hid hG
  go_enter Try.func25, Try.ntmps25
  go_upto_region 1 with fail
  obtain ⟨w0, hw0⟩ : ∃ w0, w0 = (((w.alloc (.cells #[.int .i64 a, .int .i64 b, .int .i64 c, .int .i64 d] 26)).alloc (.cells #[.int .i64 e, .int .i64 f, .int .i64 g, .int .i64 h] 26)).alloc (.cells #[.int .i64 0, .int .i64 0, .int .i64 0, .int .i64 0] 26)) := ⟨_, rfl⟩
  rw [← hw0]
  have HX : Hid (Bk4 w0 GX a b c d) := by
    have h := (bk4_new w a b c d 26).below (W' := (((w.alloc (.cells #[.int .i64 a, .int .i64 b, .int .i64 c, .int .i64 d] 26)).alloc (.cells #[.int .i64 e, .int .i64 f, .int .i64 g, .int .i64 h] 26)).alloc (.cells #[.int .i64 0, .int .i64 0, .int .i64 0, .int .i64 0] 26))) (by (repeat' (first | (with_reducible exact Below.refl _ _) | (with_reducible refine Below.alloc ?_ ?_ _) | (with_reducible refine Below.setCell ?_ ?_ _) | (with_reducible refine Below.drew ?_) | (with_reducible refine below_drewN ?_ _) | (with_reducible assumption) | (with_reducible refine below_after (by with_reducible assumption) ?_) | go_size)))
    (try simp only [World.size_alloc] at h)
    rw [hG] at h
    rw [hw0]; exact h
  have HY : Hid (Bk4 w0 (GX + 1) e f g h) := by
    have h := (bk4_new (w.alloc (.cells #[.int .i64 a, .int .i64 b, .int .i64 c, .int .i64 d] 26)) e f g h 26).below (W' := (((w.alloc (.cells #[.int .i64 a, .int .i64 b, .int .i64 c, .int .i64 d] 26)).alloc (.cells #[.int .i64 e, .int .i64 f, .int .i64 g, .int .i64 h] 26)).alloc (.cells #[.int .i64 0, .int .i64 0, .int .i64 0, .int .i64 0] 26))) (by (repeat' (first | (with_reducible exact Below.refl _ _) | (with_reducible refine Below.alloc ?_ ?_ _) | (with_reducible refine Below.setCell ?_ ?_ _) | (with_reducible refine Below.drew ?_) | (with_reducible refine below_drewN ?_ _) | (with_reducible assumption) | (with_reducible refine below_after (by with_reducible assumption) ?_) | go_size)))
    (try simp only [World.size_alloc] at h)
    rw [hG] at h
    rw [hw0]; exact h
  have HR : Hid (Bk4 w0 (GX + 1 + 1) 0 0 0 0) := by
    have h := (bk4_new ((w.alloc (.cells #[.int .i64 a, .int .i64 b, .int .i64 c, .int .i64 d] 26)).alloc (.cells #[.int .i64 e, .int .i64 f, .int .i64 g, .int .i64 h] 26)) 0 0 0 0 26).below (W' := (((w.alloc (.cells #[.int .i64 a, .int .i64 b, .int .i64 c, .int .i64 d] 26)).alloc (.cells #[.int .i64 e, .int .i64 f, .int .i64 g, .int .i64 h] 26)).alloc (.cells #[.int .i64 0, .int .i64 0, .int .i64 0, .int .i64 0] 26))) (by (repeat' (first | (with_reducible exact Below.refl _ _) | (with_reducible refine Below.alloc ?_ ?_ _) | (with_reducible refine Below.setCell ?_ ?_ _) | (with_reducible refine Below.drew ?_) | (with_reducible refine below_drewN ?_ _) | (with_reducible assumption) | (with_reducible refine below_after (by with_reducible assumption) ?_) | go_size)))
    (try simp only [World.size_alloc] at h)
    rw [hG] at h
    rw [hw0]; exact h
  have HB : Hid (Below w.heap.size w w0) := by show Below w.heap.size w w0; rw [hw0]; (repeat' (first | (with_reducible exact Below.refl _ _) | (with_reducible refine Below.alloc ?_ ?_ _) | (with_reducible refine Below.setCell ?_ ?_ _) | (with_reducible refine Below.drew ?_) | (with_reducible refine below_drewN ?_ _) | (with_reducible assumption) | (with_reducible refine below_after (by with_reducible assumption) ?_) | go_size))
  clear hw0
  obtain ⟨GR, hGR⟩ : ∃ g, GX + 1 + 1 = g := ⟨_, rfl⟩
  rw [hGR] at HR ⊢
  obtain ⟨GY, hGY⟩ : ∃ g, GX + 1 = g := ⟨_, rfl⟩
  rw [hGY] at HY ⊢
  have le_X : w.heap.size ≤ GX := by omega
  have le_Y : w.heap.size ≤ GY := by omega
  have ne_Y_X : GY ≠ GX := by omega
  have ne_X_Y : GX ≠ GY := by omega
  have le_R : w.heap.size ≤ GR := by omega
  have ne_R_X : GR ≠ GX := by omega
  have ne_X_R : GX ≠ GR := by omega
  have ne_R_Y : GR ≠ GY := by omega
  have ne_Y_R : GY ≠ GR := by omega
  clear hGY hGR
  obtain ⟨⟨qX0, qX1, qX2, qX3⟩, ⟨fX0, fX1, fX2, fX3⟩, zX⟩ := HX.out
  obtain ⟨⟨qY0, qY1, qY2, qY3⟩, ⟨fY0, fY1, fY2, fY3⟩, zY⟩ := HY.out
  obtain ⟨⟨qR0, qR1, qR2, qR3⟩, ⟨fR0, fR1, fR2, fR3⟩, zR⟩ := HR.out
  go_wp2_with fail
  go_at_call 51
  refine (l01Matrix_any a b c d _).mono ?_
  rintro e w1 ⟨rfl, hb⟩
  clear qX0 fX0 qX1 fX1 qX2 fX2 qX3 fX3 zX qY0 fY0 qY1 fY1 qY2 fY2 qY3 fY3 zY qR0 fR0 qR1 fR1 qR2 fR2 qR3 fR3 zR
  have HX := Lib.hid (HX.out.below hb)
  have HY := Lib.hid (HY.out.below hb)
  have HR := Lib.hid (HR.out.below hb)
  have HB := Lib.hid (below_after hb HB.out)
  clear hb
  obtain ⟨⟨qX0, qX1, qX2, qX3⟩, ⟨fX0, fX1, fX2, fX3⟩, zX⟩ := HX.out
  obtain ⟨⟨qY0, qY1, qY2, qY3⟩, ⟨fY0, fY1, fY2, fY3⟩, zY⟩ := HY.out
  obtain ⟨⟨qR0, qR1, qR2, qR3⟩, ⟨fR0, fR1, fR2, fR3⟩, zR⟩ := HR.out
  go_wp2_with fail
  go_at_call 51
  refine (l01Matrix_any e f g h _).mono ?_
  rintro e w2 ⟨rfl, hb⟩
  clear qX0 fX0 qX1 fX1 qX2 fX2 qX3 fX3 zX qY0 fY0 qY1 fY1 qY2 fY2 qY3 fY3 zY qR0 fR0 qR1 fR1 qR2 fR2 qR3 fR3 zR
  have HX := Lib.hid (HX.out.below hb)
  have HY := Lib.hid (HY.out.below hb)
  have HR := Lib.hid (HR.out.below hb)
  have HB := Lib.hid (below_after hb HB.out)
  clear hb
  obtain ⟨⟨qX0, qX1, qX2, qX3⟩, ⟨fX0, fX1, fX2, fX3⟩, zX⟩ := HX.out
  obtain ⟨⟨qY0, qY1, qY2, qY3⟩, ⟨fY0, fY1, fY2, fY3⟩, zY⟩ := HY.out
  obtain ⟨⟨qR0, qR1, qR2, qR3⟩, ⟨fR0, fR1, fR2, fR3⟩, zR⟩ := HR.out
  go_wp2_with fail
  go_at_call 64
  refine (HU.out _).mono ?_
  rintro e w3 ⟨rfl, hb⟩
  clear qX0 fX0 qX1 fX1 qX2 fX2 qX3 fX3 zX qY0 fY0 qY1 fY1 qY2 fY2 qY3 fY3 zY qR0 fR0 qR1 fR1 qR2 fR2 qR3 fR3 zR
  have HX := Lib.hid (HX.out.below hb)
  have HY := Lib.hid (HY.out.below hb)
  have HR := Lib.hid (HR.out.below hb)
  have HB := Lib.hid (below_after hb HB.out)
  clear hb
  have HXX : Hid (∀ W, Below w3.heap.size w3 W → Bk4 W GX a b c d ∧ Bk4 W GY e f g h ∧ Bk4 W GR 0 0 0 0) := fun W hW => ⟨HX.out.below hW, HY.out.below hW, HR.out.below hW⟩
  go_wp2_with fail
  refine wp_region_held_drew (S := fun W => Below w3.heap.size w3 W) (by kernel_rfl) ?_ (fun hHeld => ?_); focus ((try dsimp only); exact (Below.refl _ _).drew)
  have HX := Lib.hid (HX.out.below (Below.drew (Below.refl _ _)))
  have HY := Lib.hid (HY.out.below (Below.drew (Below.refl _ _)))
  have HR := Lib.hid (HR.out.below (Below.drew (Below.refl _ _)))
  have hHeld : Below w3.heap.size w3 _ := hHeld
  obtain ⟨wD, hwD⟩ : ∃ wD, w3.drew = wD := ⟨_, rfl⟩
  rw [hwD] at hHeld HX HY HR ⊢
  clear hwD
  (refine wpAnyH_take (i := 0) (v := ?_) rfl (by kernel_rfl) (by kernel_rfl) (by kernel_rfl) (fun _ _ _ h => h) (Or.inl ⟨rfl, ?_⟩) (by assumption) ?_; rotate_left; focus (intro W hSw; (try dsimp only at hSw); have hxx := HXX.out _ hSw; obtain ⟨hxX, hxY, hxR⟩ := hxx; obtain ⟨⟨iX0, iX1, iX2, iX3⟩, _, _⟩ := hxX; obtain ⟨⟨iY0, iY1, iY2, iY3⟩, _, _⟩ := hxY; obtain ⟨⟨iR0, iR1, iR2, iR3⟩, _, _⟩ := hxR; go_simp; try (with_reducible rfl))); (try simp only [Act.put, List.getElem_toArray, List.getElem_cons_succ, List.getElem_cons_zero, List.setIfInBounds_toArray, List.set_cons_zero, List.set_cons_succ])
  (refine wpAnyH_take (i := 2) (v := ?_) rfl (by kernel_rfl) (by kernel_rfl) (by kernel_rfl) (fun _ _ _ h => h) (Or.inl ⟨rfl, ?_⟩) (by assumption) ?_; rotate_left; focus (intro W hSw; (try dsimp only at hSw); have hxx := HXX.out _ hSw; obtain ⟨hxX, hxY, hxR⟩ := hxx; obtain ⟨⟨iX0, iX1, iX2, iX3⟩, _, _⟩ := hxX; obtain ⟨⟨iY0, iY1, iY2, iY3⟩, _, _⟩ := hxY; obtain ⟨⟨iR0, iR1, iR2, iR3⟩, _, _⟩ := hxR; go_simp; try (with_reducible rfl))); (try simp only [Act.put, List.getElem_toArray, List.getElem_cons_succ, List.getElem_cons_zero, List.setIfInBounds_toArray, List.set_cons_zero, List.set_cons_succ])
  refine wpAnyH_ready (rs := [1, 4]) (by kernel_rfl) (by simp) ?_; refine AllReadyH.cons rfl (fun K hK => ?_) (AllReadyH.cons rfl (fun K hK => ?_) AllReadyH.nil)
  · skip
    go_simp; (go_at_call 66; refine (HI.out _).mono ?_; rintro en ywr0 ⟨rfl, hb2⟩); have HX := Lib.hid (HX.out.below hb2); have HY := Lib.hid (HY.out.below hb2); have HR := Lib.hid (HR.out.below hb2); refine hK.out _ _ (below_after hb2 hHeld) (fun hHeld2 => ?_); clear hb2; (clear hHeld; rename _ => hHeld; clear hK K; have hHeld : Below w3.heap.size w3 _ := hHeld); (try simp only [Act.put, List.getElem_toArray, List.getElem_cons_succ, List.getElem_cons_zero, List.setIfInBounds_toArray, List.set_cons_zero, List.set_cons_succ])
    refine wpAnyH_ready (rs := [3, 4]) (by kernel_rfl) (by simp) ?_; refine AllReadyH.cons rfl (fun K hK => ?_) (AllReadyH.cons rfl (fun K hK => ?_) AllReadyH.nil)
    · skip
      go_simp; (go_at_call 65; refine (HM.out _).mono ?_; rintro en ywr1 ⟨rfl, hb2⟩); have HX := Lib.hid (HX.out.below hb2); have HY := Lib.hid (HY.out.below hb2); have HR := Lib.hid (HR.out.below hb2); refine hK.out _ _ (below_after hb2 hHeld) (fun hHeld2 => ?_); clear hb2; (clear hHeld; rename _ => hHeld; clear hK K; have hHeld : Below w3.heap.size w3 _ := hHeld); (try simp only [Act.put, List.getElem_toArray, List.getElem_cons_succ, List.getElem_cons_zero, List.setIfInBounds_toArray, List.set_cons_zero, List.set_cons_succ])
      refine wpAnyH_ready (rs := [4]) (by kernel_rfl) (by simp) ?_; refine AllReadyH.cons rfl (fun K hK => ?_) AllReadyH.nil
      go_simp; obtain ⟨GP, hGP⟩ : ∃ G, ywr1.heap.size = G := ⟨_, rfl⟩; have le_P : w3.heap.size ≤ GP := by rw [← hGP]; exact Below.size hHeld
      have ne_P_X : GP ≠ GX := by have := HX.out.2.2; omega
      have ne_X_P : GX ≠ GP := Ne.symm ne_P_X
      have ne_P_Y : GP ≠ GY := by have := HY.out.2.2; omega
      have ne_Y_P : GY ≠ GP := Ne.symm ne_P_Y
      have ne_P_R : GP ≠ GR := by have := HR.out.2.2; omega
      have ne_R_P : GR ≠ GP := Ne.symm ne_P_R
      have HX := Lib.hid (HX.out.below ((Below.refl _ _).alloc (Nat.le_refl _) (.cells #[.int .i64 0, .int .i64 0, .int .i64 0, .int .i64 0] 26))); have HY := Lib.hid (HY.out.below ((Below.refl _ _).alloc (Nat.le_refl _) (.cells #[.int .i64 0, .int .i64 0, .int .i64 0, .int .i64 0] 26))); have HR := Lib.hid (HR.out.below ((Below.refl _ _).alloc (Nat.le_refl _) (.cells #[.int .i64 0, .int .i64 0, .int .i64 0, .int .i64 0] 26))); skip
      have HP : Hid (Bk4 (ywr1.alloc (.cells #[.int .i64 0, .int .i64 0, .int .i64 0, .int .i64 0] 26)) GP 0 0 0 0) := by rw [← hGP]; exact bk4_new ywr1 0 0 0 0 _
      refine hK.out _ _ (Below.alloc hHeld (Below.size hHeld) _) (fun hHeld2 => ?_); (clear hHeld; rename _ => hHeld; clear hK K; have hHeld : Below w3.heap.size w3 _ := hHeld); (try simp only [Act.put, List.getElem_toArray, List.getElem_cons_succ, List.getElem_cons_zero, List.setIfInBounds_toArray, List.set_cons_zero, List.set_cons_succ])
      rw [hGP]; clear hGP; obtain ⟨ywr2, hwx⟩ : ∃ wx, ywr1.alloc (.cells #[.int .i64 0, .int .i64 0, .int .i64 0, .int .i64 0] 26) = wx := ⟨_, rfl⟩; rw [hwx] at HX HY HR HP hHeld ⊢; clear hwx
      refine wpAnyH_ready (rs := [5]) (by kernel_rfl) (by simp) ?_; refine AllReadyH.cons rfl (fun K hK => ?_) AllReadyH.nil
      obtain ⟨⟨a0, a1, a2, a3⟩, ⟨f0, f1, f2, f3⟩, az⟩ := HP.out; go_simp; clear a0 f0 a1 f1 a2 f2 a3 f3 az
      have HX := Lib.hid ((((HX.out.far ⟨GP, 0, none⟩ (.int .i64 p) (by show GX ≠ GP; exact ne_X_P)).far ⟨GP, 1, none⟩ (.int .i64 q) (by show GX ≠ GP; exact ne_X_P)).far ⟨GP, 2, none⟩ (.int .i64 r) (by show GX ≠ GP; exact ne_X_P)).far ⟨GP, 3, none⟩ (.int .i64 s) (by show GX ≠ GP; exact ne_X_P))
      have HY := Lib.hid ((((HY.out.far ⟨GP, 0, none⟩ (.int .i64 p) (by show GY ≠ GP; exact ne_Y_P)).far ⟨GP, 1, none⟩ (.int .i64 q) (by show GY ≠ GP; exact ne_Y_P)).far ⟨GP, 2, none⟩ (.int .i64 r) (by show GY ≠ GP; exact ne_Y_P)).far ⟨GP, 3, none⟩ (.int .i64 s) (by show GY ≠ GP; exact ne_Y_P))
      have HR := Lib.hid ((((HR.out.far ⟨GP, 0, none⟩ (.int .i64 p) (by show GR ≠ GP; exact ne_R_P)).far ⟨GP, 1, none⟩ (.int .i64 q) (by show GR ≠ GP; exact ne_R_P)).far ⟨GP, 2, none⟩ (.int .i64 r) (by show GR ≠ GP; exact ne_R_P)).far ⟨GP, 3, none⟩ (.int .i64 s) (by show GR ≠ GP; exact ne_R_P))
      have HP := Lib.hid ((((HP.out.set0 p).set1 q).set2 r).set3 s)
      refine hK.out _ _ (Below.setCell (Below.setCell (Below.setCell (Below.setCell hHeld (p := ⟨GP, 0, none⟩) le_P _) (p := ⟨GP, 1, none⟩) le_P _) (p := ⟨GP, 2, none⟩) le_P _) (p := ⟨GP, 3, none⟩) le_P _) (fun hHeld2 => ?_); (clear hHeld; rename _ => hHeld; clear hK K; have hHeld : Below w3.heap.size w3 _ := hHeld); (try simp only [Act.put, List.getElem_toArray, List.getElem_cons_succ, List.getElem_cons_zero, List.setIfInBounds_toArray, List.set_cons_zero, List.set_cons_succ])
      obtain ⟨ywr3, hwx⟩ : ∃ wx, (((ywr2.setCell ⟨GP, 0, none⟩ (.int .i64 p)).setCell ⟨GP, 1, none⟩ (.int .i64 q)).setCell ⟨GP, 2, none⟩ (.int .i64 r)).setCell ⟨GP, 3, none⟩ (.int .i64 s) = wx := ⟨_, rfl⟩; rw [hwx] at HX HY HR HP hHeld ⊢; clear hwx
      refine wpAnyH_done (by kernel_rfl) ?_ _
      have le_P : w.heap.size ≤ GP := Nat.le_trans HB.out.size le_P
      have HB := Lib.hid (HB.out.trans (hHeld.mono HB.out.size))
      clear hHeld HXX
      obtain ⟨⟨qX0, qX1, qX2, qX3⟩, ⟨fX0, fX1, fX2, fX3⟩, zX⟩ := HX.out
      obtain ⟨⟨qY0, qY1, qY2, qY3⟩, ⟨fY0, fY1, fY2, fY3⟩, zY⟩ := HY.out
      obtain ⟨⟨qR0, qR1, qR2, qR3⟩, ⟨fR0, fR1, fR2, fR3⟩, zR⟩ := HR.out
      obtain ⟨⟨qP0, qP1, qP2, qP3⟩, ⟨fP0, fP1, fP2, fP3⟩, zP⟩ := HP.out
      go_wp2_with fail
      go_at_call 51
      refine (l01Matrix_any p q r s _).mono ?_
      rintro e w54 ⟨rfl, hb⟩
      clear qX0 fX0 qX1 fX1 qX2 fX2 qX3 fX3 zX qY0 fY0 qY1 fY1 qY2 fY2 qY3 fY3 zY qR0 fR0 qR1 fR1 qR2 fR2 qR3 fR3 zR qP0 fP0 qP1 fP1 qP2 fP2 qP3 fP3 zP
      have HX := Lib.hid (HX.out.below hb)
      have HY := Lib.hid (HY.out.below hb)
      have HR := Lib.hid (HR.out.below hb)
      have HP := Lib.hid (HP.out.below hb)
      have HB := Lib.hid (below_after hb HB.out)
      clear hb
      obtain ⟨⟨qX0, qX1, qX2, qX3⟩, ⟨fX0, fX1, fX2, fX3⟩, zX⟩ := HX.out
      obtain ⟨⟨qY0, qY1, qY2, qY3⟩, ⟨fY0, fY1, fY2, fY3⟩, zY⟩ := HY.out
      obtain ⟨⟨qR0, qR1, qR2, qR3⟩, ⟨fR0, fR1, fR2, fR3⟩, zR⟩ := HR.out
      obtain ⟨⟨qP0, qP1, qP2, qP3⟩, ⟨fP0, fP1, fP2, fP3⟩, zP⟩ := HP.out
      go_wp2_with fail
      go_at_call 65
      refine (HE.out _).mono ?_
      rintro e w55 ⟨rfl, hb⟩
      clear qX0 fX0 qX1 fX1 qX2 fX2 qX3 fX3 zX qY0 fY0 qY1 fY1 qY2 fY2 qY3 fY3 zY qR0 fR0 qR1 fR1 qR2 fR2 qR3 fR3 zR qP0 fP0 qP1 fP1 qP2 fP2 qP3 fP3 zP
      have HX := Lib.hid (HX.out.below hb)
      have HY := Lib.hid (HY.out.below hb)
      have HR := Lib.hid (HR.out.below hb)
      have HP := Lib.hid (HP.out.below hb)
      have HB := Lib.hid (below_after hb HB.out)
      clear hb
      obtain ⟨⟨qX0, qX1, qX2, qX3⟩, ⟨fX0, fX1, fX2, fX3⟩, zX⟩ := HX.out
      obtain ⟨⟨qY0, qY1, qY2, qY3⟩, ⟨fY0, fY1, fY2, fY3⟩, zY⟩ := HY.out
      obtain ⟨⟨qR0, qR1, qR2, qR3⟩, ⟨fR0, fR1, fR2, fR3⟩, zR⟩ := HR.out
      obtain ⟨⟨qP0, qP1, qP2, qP3⟩, ⟨fP0, fP1, fP2, fP3⟩, zP⟩ := HP.out
      go_upto_region 9 with fail
      obtain ⟨GV, hGV⟩ : ∃ g, w55.heap.size = g := ⟨_, rfl⟩
      obtain ⟨w56, hw56⟩ : ∃ wx, wx = w55.alloc (.cells #[.int .i64 P, .int .i64 Q, .int .i64 R, .int .i64 S] 26) := ⟨_, rfl⟩
      rw [← hw56, hGV]
      have HV : Hid (Bk4 w56 GV P Q R S) := by rw [hw56, ← hGV]; exact bk4_new w55 P Q R S _
      have le_V : w.heap.size ≤ GV := by rw [← hGV]; exact HB.out.size
      have ne_V_X : GV ≠ GX := by have := HX.out.2.2; omega
      have ne_X_V : GX ≠ GV := Ne.symm ne_V_X
      have ne_V_Y : GV ≠ GY := by have := HY.out.2.2; omega
      have ne_Y_V : GY ≠ GV := Ne.symm ne_V_Y
      have ne_V_R : GV ≠ GR := by have := HR.out.2.2; omega
      have ne_R_V : GR ≠ GV := Ne.symm ne_V_R
      have ne_V_P : GV ≠ GP := by have := HP.out.2.2; omega
      have ne_P_V : GP ≠ GV := Ne.symm ne_V_P
      clear qX0 fX0 qX1 fX1 qX2 fX2 qX3 fX3 zX qY0 fY0 qY1 fY1 qY2 fY2 qY3 fY3 zY qR0 fR0 qR1 fR1 qR2 fR2 qR3 fR3 zR qP0 fP0 qP1 fP1 qP2 fP2 qP3 fP3 zP
      have HX := Lib.hid (HX.out.below ((Below.refl _ _).alloc (Nat.le_refl _) (.cells #[.int .i64 P, .int .i64 Q, .int .i64 R, .int .i64 S] 26)))
      have HY := Lib.hid (HY.out.below ((Below.refl _ _).alloc (Nat.le_refl _) (.cells #[.int .i64 P, .int .i64 Q, .int .i64 R, .int .i64 S] 26)))
      have HR := Lib.hid (HR.out.below ((Below.refl _ _).alloc (Nat.le_refl _) (.cells #[.int .i64 P, .int .i64 Q, .int .i64 R, .int .i64 S] 26)))
      have HP := Lib.hid (HP.out.below ((Below.refl _ _).alloc (Nat.le_refl _) (.cells #[.int .i64 P, .int .i64 Q, .int .i64 R, .int .i64 S] 26)))
      have HB := Lib.hid (Below.alloc HB.out HB.out.size (.cells #[.int .i64 P, .int .i64 Q, .int .i64 R, .int .i64 S] 26))
      rw [← hw56] at HX HY HR HP HB
      clear hw56 hGV
      obtain ⟨⟨qX0, qX1, qX2, qX3⟩, ⟨fX0, fX1, fX2, fX3⟩, zX⟩ := HX.out
      obtain ⟨⟨qY0, qY1, qY2, qY3⟩, ⟨fY0, fY1, fY2, fY3⟩, zY⟩ := HY.out
      obtain ⟨⟨qR0, qR1, qR2, qR3⟩, ⟨fR0, fR1, fR2, fR3⟩, zR⟩ := HR.out
      obtain ⟨⟨qP0, qP1, qP2, qP3⟩, ⟨fP0, fP1, fP2, fP3⟩, zP⟩ := HP.out
      obtain ⟨⟨qV0, qV1, qV2, qV3⟩, ⟨fV0, fV1, fV2, fV3⟩, zV⟩ := HV.out
      go_wp2_with fail
      go_at_call 51
      refine (l01Matrix_any P Q R S _).mono ?_
      rintro e w57 ⟨rfl, hb⟩
      clear qX0 fX0 qX1 fX1 qX2 fX2 qX3 fX3 zX qY0 fY0 qY1 fY1 qY2 fY2 qY3 fY3 zY qR0 fR0 qR1 fR1 qR2 fR2 qR3 fR3 zR qP0 fP0 qP1 fP1 qP2 fP2 qP3 fP3 zP qV0 fV0 qV1 fV1 qV2 fV2 qV3 fV3 zV
      have HX := Lib.hid (HX.out.below hb)
      have HY := Lib.hid (HY.out.below hb)
      have HR := Lib.hid (HR.out.below hb)
      have HP := Lib.hid (HP.out.below hb)
      have HV := Lib.hid (HV.out.below hb)
      have HB := Lib.hid (below_after hb HB.out)
      clear hb
      obtain ⟨⟨qX0, qX1, qX2, qX3⟩, ⟨fX0, fX1, fX2, fX3⟩, zX⟩ := HX.out
      obtain ⟨⟨qY0, qY1, qY2, qY3⟩, ⟨fY0, fY1, fY2, fY3⟩, zY⟩ := HY.out
      obtain ⟨⟨qR0, qR1, qR2, qR3⟩, ⟨fR0, fR1, fR2, fR3⟩, zR⟩ := HR.out
      obtain ⟨⟨qP0, qP1, qP2, qP3⟩, ⟨fP0, fP1, fP2, fP3⟩, zP⟩ := HP.out
      obtain ⟨⟨qV0, qV1, qV2, qV3⟩, ⟨fV0, fV1, fV2, fV3⟩, zV⟩ := HV.out
      go_wp2_with fail
      refine bodyPost_ret (v := .tuple #[.agg #[.int .i64 P, .int .i64 Q, .int .i64 R, .int .i64 S], .int .i64 0]) (by simp (maxDischargeDepth := 8) [results, Try.results25, go_sem, *]) rfl ?_
      have hb := HB.out
      exact ⟨rfl, by (repeat' (first | (with_reducible exact Below.refl _ _) | (with_reducible refine Below.alloc ?_ ?_ _) | (with_reducible refine Below.setCell ?_ ?_ _) | (with_reducible refine Below.drew ?_) | (with_reducible refine below_drewN ?_ _) | (with_reducible assumption) | (with_reducible refine below_after (by with_reducible assumption) ?_) | go_size))⟩
    · skip
      go_simp; obtain ⟨GP, hGP⟩ : ∃ G, ywr0.heap.size = G := ⟨_, rfl⟩; have le_P : w3.heap.size ≤ GP := by rw [← hGP]; exact Below.size hHeld
      have ne_P_X : GP ≠ GX := by have := HX.out.2.2; omega
      have ne_X_P : GX ≠ GP := Ne.symm ne_P_X
      have ne_P_Y : GP ≠ GY := by have := HY.out.2.2; omega
      have ne_Y_P : GY ≠ GP := Ne.symm ne_P_Y
      have ne_P_R : GP ≠ GR := by have := HR.out.2.2; omega
      have ne_R_P : GR ≠ GP := Ne.symm ne_P_R
      have HX := Lib.hid (HX.out.below ((Below.refl _ _).alloc (Nat.le_refl _) (.cells #[.int .i64 0, .int .i64 0, .int .i64 0, .int .i64 0] 26))); have HY := Lib.hid (HY.out.below ((Below.refl _ _).alloc (Nat.le_refl _) (.cells #[.int .i64 0, .int .i64 0, .int .i64 0, .int .i64 0] 26))); have HR := Lib.hid (HR.out.below ((Below.refl _ _).alloc (Nat.le_refl _) (.cells #[.int .i64 0, .int .i64 0, .int .i64 0, .int .i64 0] 26))); skip
      have HP : Hid (Bk4 (ywr0.alloc (.cells #[.int .i64 0, .int .i64 0, .int .i64 0, .int .i64 0] 26)) GP 0 0 0 0) := by rw [← hGP]; exact bk4_new ywr0 0 0 0 0 _
      refine hK.out _ _ (Below.alloc hHeld (Below.size hHeld) _) (fun hHeld2 => ?_); (clear hHeld; rename _ => hHeld; clear hK K; have hHeld : Below w3.heap.size w3 _ := hHeld); (try simp only [Act.put, List.getElem_toArray, List.getElem_cons_succ, List.getElem_cons_zero, List.setIfInBounds_toArray, List.set_cons_zero, List.set_cons_succ])
      rw [hGP]; clear hGP; obtain ⟨ywr1, hwx⟩ : ∃ wx, ywr0.alloc (.cells #[.int .i64 0, .int .i64 0, .int .i64 0, .int .i64 0] 26) = wx := ⟨_, rfl⟩; rw [hwx] at HX HY HR HP hHeld ⊢; clear hwx
      refine wpAnyH_ready (rs := [3]) (by kernel_rfl) (by simp) ?_; refine AllReadyH.cons rfl (fun K hK => ?_) AllReadyH.nil
      go_simp; (go_at_call 65; refine (HM.out _).mono ?_; rintro en ywr2 ⟨rfl, hb2⟩); have HX := Lib.hid (HX.out.below hb2); have HY := Lib.hid (HY.out.below hb2); have HR := Lib.hid (HR.out.below hb2); have HP := Lib.hid (HP.out.below hb2); refine hK.out _ _ (below_after hb2 hHeld) (fun hHeld2 => ?_); clear hb2; (clear hHeld; rename _ => hHeld; clear hK K; have hHeld : Below w3.heap.size w3 _ := hHeld); (try simp only [Act.put, List.getElem_toArray, List.getElem_cons_succ, List.getElem_cons_zero, List.setIfInBounds_toArray, List.set_cons_zero, List.set_cons_succ])
      refine wpAnyH_ready (rs := [5]) (by kernel_rfl) (by simp) ?_; refine AllReadyH.cons rfl (fun K hK => ?_) AllReadyH.nil
      obtain ⟨⟨a0, a1, a2, a3⟩, ⟨f0, f1, f2, f3⟩, az⟩ := HP.out; go_simp; clear a0 f0 a1 f1 a2 f2 a3 f3 az
      have HX := Lib.hid ((((HX.out.far ⟨GP, 0, none⟩ (.int .i64 p) (by show GX ≠ GP; exact ne_X_P)).far ⟨GP, 1, none⟩ (.int .i64 q) (by show GX ≠ GP; exact ne_X_P)).far ⟨GP, 2, none⟩ (.int .i64 r) (by show GX ≠ GP; exact ne_X_P)).far ⟨GP, 3, none⟩ (.int .i64 s) (by show GX ≠ GP; exact ne_X_P))
      have HY := Lib.hid ((((HY.out.far ⟨GP, 0, none⟩ (.int .i64 p) (by show GY ≠ GP; exact ne_Y_P)).far ⟨GP, 1, none⟩ (.int .i64 q) (by show GY ≠ GP; exact ne_Y_P)).far ⟨GP, 2, none⟩ (.int .i64 r) (by show GY ≠ GP; exact ne_Y_P)).far ⟨GP, 3, none⟩ (.int .i64 s) (by show GY ≠ GP; exact ne_Y_P))
      have HR := Lib.hid ((((HR.out.far ⟨GP, 0, none⟩ (.int .i64 p) (by show GR ≠ GP; exact ne_R_P)).far ⟨GP, 1, none⟩ (.int .i64 q) (by show GR ≠ GP; exact ne_R_P)).far ⟨GP, 2, none⟩ (.int .i64 r) (by show GR ≠ GP; exact ne_R_P)).far ⟨GP, 3, none⟩ (.int .i64 s) (by show GR ≠ GP; exact ne_R_P))
      have HP := Lib.hid ((((HP.out.set0 p).set1 q).set2 r).set3 s)
      refine hK.out _ _ (Below.setCell (Below.setCell (Below.setCell (Below.setCell hHeld (p := ⟨GP, 0, none⟩) le_P _) (p := ⟨GP, 1, none⟩) le_P _) (p := ⟨GP, 2, none⟩) le_P _) (p := ⟨GP, 3, none⟩) le_P _) (fun hHeld2 => ?_); (clear hHeld; rename _ => hHeld; clear hK K; have hHeld : Below w3.heap.size w3 _ := hHeld); (try simp only [Act.put, List.getElem_toArray, List.getElem_cons_succ, List.getElem_cons_zero, List.setIfInBounds_toArray, List.set_cons_zero, List.set_cons_succ])
      obtain ⟨ywr3, hwx⟩ : ∃ wx, (((ywr2.setCell ⟨GP, 0, none⟩ (.int .i64 p)).setCell ⟨GP, 1, none⟩ (.int .i64 q)).setCell ⟨GP, 2, none⟩ (.int .i64 r)).setCell ⟨GP, 3, none⟩ (.int .i64 s) = wx := ⟨_, rfl⟩; rw [hwx] at HX HY HR HP hHeld ⊢; clear hwx
      refine wpAnyH_done (by kernel_rfl) ?_ _
      have le_P : w.heap.size ≤ GP := Nat.le_trans HB.out.size le_P
      have HB := Lib.hid (HB.out.trans (hHeld.mono HB.out.size))
      clear hHeld HXX
      obtain ⟨⟨qX0, qX1, qX2, qX3⟩, ⟨fX0, fX1, fX2, fX3⟩, zX⟩ := HX.out
      obtain ⟨⟨qY0, qY1, qY2, qY3⟩, ⟨fY0, fY1, fY2, fY3⟩, zY⟩ := HY.out
      obtain ⟨⟨qR0, qR1, qR2, qR3⟩, ⟨fR0, fR1, fR2, fR3⟩, zR⟩ := HR.out
      obtain ⟨⟨qP0, qP1, qP2, qP3⟩, ⟨fP0, fP1, fP2, fP3⟩, zP⟩ := HP.out
      go_wp2_with fail
      go_at_call 51
      refine (l01Matrix_any p q r s _).mono ?_
      rintro e w54 ⟨rfl, hb⟩
      clear qX0 fX0 qX1 fX1 qX2 fX2 qX3 fX3 zX qY0 fY0 qY1 fY1 qY2 fY2 qY3 fY3 zY qR0 fR0 qR1 fR1 qR2 fR2 qR3 fR3 zR qP0 fP0 qP1 fP1 qP2 fP2 qP3 fP3 zP
      have HX := Lib.hid (HX.out.below hb)
      have HY := Lib.hid (HY.out.below hb)
      have HR := Lib.hid (HR.out.below hb)
      have HP := Lib.hid (HP.out.below hb)
      have HB := Lib.hid (below_after hb HB.out)
      clear hb
      obtain ⟨⟨qX0, qX1, qX2, qX3⟩, ⟨fX0, fX1, fX2, fX3⟩, zX⟩ := HX.out
      obtain ⟨⟨qY0, qY1, qY2, qY3⟩, ⟨fY0, fY1, fY2, fY3⟩, zY⟩ := HY.out
      obtain ⟨⟨qR0, qR1, qR2, qR3⟩, ⟨fR0, fR1, fR2, fR3⟩, zR⟩ := HR.out
      obtain ⟨⟨qP0, qP1, qP2, qP3⟩, ⟨fP0, fP1, fP2, fP3⟩, zP⟩ := HP.out
      go_wp2_with fail
      go_at_call 65
      refine (HE.out _).mono ?_
      rintro e w55 ⟨rfl, hb⟩
      clear qX0 fX0 qX1 fX1 qX2 fX2 qX3 fX3 zX qY0 fY0 qY1 fY1 qY2 fY2 qY3 fY3 zY qR0 fR0 qR1 fR1 qR2 fR2 qR3 fR3 zR qP0 fP0 qP1 fP1 qP2 fP2 qP3 fP3 zP
      have HX := Lib.hid (HX.out.below hb)
      have HY := Lib.hid (HY.out.below hb)
      have HR := Lib.hid (HR.out.below hb)
      have HP := Lib.hid (HP.out.below hb)
      have HB := Lib.hid (below_after hb HB.out)
      clear hb
      obtain ⟨⟨qX0, qX1, qX2, qX3⟩, ⟨fX0, fX1, fX2, fX3⟩, zX⟩ := HX.out
      obtain ⟨⟨qY0, qY1, qY2, qY3⟩, ⟨fY0, fY1, fY2, fY3⟩, zY⟩ := HY.out
      obtain ⟨⟨qR0, qR1, qR2, qR3⟩, ⟨fR0, fR1, fR2, fR3⟩, zR⟩ := HR.out
      obtain ⟨⟨qP0, qP1, qP2, qP3⟩, ⟨fP0, fP1, fP2, fP3⟩, zP⟩ := HP.out
      go_upto_region 9 with fail
      obtain ⟨GV, hGV⟩ : ∃ g, w55.heap.size = g := ⟨_, rfl⟩
      obtain ⟨w56, hw56⟩ : ∃ wx, wx = w55.alloc (.cells #[.int .i64 P, .int .i64 Q, .int .i64 R, .int .i64 S] 26) := ⟨_, rfl⟩
      rw [← hw56, hGV]
      have HV : Hid (Bk4 w56 GV P Q R S) := by rw [hw56, ← hGV]; exact bk4_new w55 P Q R S _
      have le_V : w.heap.size ≤ GV := by rw [← hGV]; exact HB.out.size
      have ne_V_X : GV ≠ GX := by have := HX.out.2.2; omega
      have ne_X_V : GX ≠ GV := Ne.symm ne_V_X
      have ne_V_Y : GV ≠ GY := by have := HY.out.2.2; omega
      have ne_Y_V : GY ≠ GV := Ne.symm ne_V_Y
      have ne_V_R : GV ≠ GR := by have := HR.out.2.2; omega
      have ne_R_V : GR ≠ GV := Ne.symm ne_V_R
      have ne_V_P : GV ≠ GP := by have := HP.out.2.2; omega
      have ne_P_V : GP ≠ GV := Ne.symm ne_V_P
      clear qX0 fX0 qX1 fX1 qX2 fX2 qX3 fX3 zX qY0 fY0 qY1 fY1 qY2 fY2 qY3 fY3 zY qR0 fR0 qR1 fR1 qR2 fR2 qR3 fR3 zR qP0 fP0 qP1 fP1 qP2 fP2 qP3 fP3 zP
      have HX := Lib.hid (HX.out.below ((Below.refl _ _).alloc (Nat.le_refl _) (.cells #[.int .i64 P, .int .i64 Q, .int .i64 R, .int .i64 S] 26)))
      have HY := Lib.hid (HY.out.below ((Below.refl _ _).alloc (Nat.le_refl _) (.cells #[.int .i64 P, .int .i64 Q, .int .i64 R, .int .i64 S] 26)))
      have HR := Lib.hid (HR.out.below ((Below.refl _ _).alloc (Nat.le_refl _) (.cells #[.int .i64 P, .int .i64 Q, .int .i64 R, .int .i64 S] 26)))
      have HP := Lib.hid (HP.out.below ((Below.refl _ _).alloc (Nat.le_refl _) (.cells #[.int .i64 P, .int .i64 Q, .int .i64 R, .int .i64 S] 26)))
      have HB := Lib.hid (Below.alloc HB.out HB.out.size (.cells #[.int .i64 P, .int .i64 Q, .int .i64 R, .int .i64 S] 26))
      rw [← hw56] at HX HY HR HP HB
      clear hw56 hGV
      obtain ⟨⟨qX0, qX1, qX2, qX3⟩, ⟨fX0, fX1, fX2, fX3⟩, zX⟩ := HX.out
      obtain ⟨⟨qY0, qY1, qY2, qY3⟩, ⟨fY0, fY1, fY2, fY3⟩, zY⟩ := HY.out
      obtain ⟨⟨qR0, qR1, qR2, qR3⟩, ⟨fR0, fR1, fR2, fR3⟩, zR⟩ := HR.out
      obtain ⟨⟨qP0, qP1, qP2, qP3⟩, ⟨fP0, fP1, fP2, fP3⟩, zP⟩ := HP.out
      obtain ⟨⟨qV0, qV1, qV2, qV3⟩, ⟨fV0, fV1, fV2, fV3⟩, zV⟩ := HV.out
      go_wp2_with fail
      go_at_call 51
      refine (l01Matrix_any P Q R S _).mono ?_
      rintro e w57 ⟨rfl, hb⟩
      clear qX0 fX0 qX1 fX1 qX2 fX2 qX3 fX3 zX qY0 fY0 qY1 fY1 qY2 fY2 qY3 fY3 zY qR0 fR0 qR1 fR1 qR2 fR2 qR3 fR3 zR qP0 fP0 qP1 fP1 qP2 fP2 qP3 fP3 zP qV0 fV0 qV1 fV1 qV2 fV2 qV3 fV3 zV
      have HX := Lib.hid (HX.out.below hb)
      have HY := Lib.hid (HY.out.below hb)
      have HR := Lib.hid (HR.out.below hb)
      have HP := Lib.hid (HP.out.below hb)
      have HV := Lib.hid (HV.out.below hb)
      have HB := Lib.hid (below_after hb HB.out)
      clear hb
      obtain ⟨⟨qX0, qX1, qX2, qX3⟩, ⟨fX0, fX1, fX2, fX3⟩, zX⟩ := HX.out
      obtain ⟨⟨qY0, qY1, qY2, qY3⟩, ⟨fY0, fY1, fY2, fY3⟩, zY⟩ := HY.out
      obtain ⟨⟨qR0, qR1, qR2, qR3⟩, ⟨fR0, fR1, fR2, fR3⟩, zR⟩ := HR.out
      obtain ⟨⟨qP0, qP1, qP2, qP3⟩, ⟨fP0, fP1, fP2, fP3⟩, zP⟩ := HP.out
      obtain ⟨⟨qV0, qV1, qV2, qV3⟩, ⟨fV0, fV1, fV2, fV3⟩, zV⟩ := HV.out
      go_wp2_with fail
      refine bodyPost_ret (v := .tuple #[.agg #[.int .i64 P, .int .i64 Q, .int .i64 R, .int .i64 S], .int .i64 0]) (by simp (maxDischargeDepth := 8) [results, Try.results25, go_sem, *]) rfl ?_
      have hb := HB.out
      exact ⟨rfl, by (repeat' (first | (with_reducible exact Below.refl _ _) | (with_reducible refine Below.alloc ?_ ?_ _) | (with_reducible refine Below.setCell ?_ ?_ _) | (with_reducible refine Below.drew ?_) | (with_reducible refine below_drewN ?_ _) | (with_reducible assumption) | (with_reducible refine below_after (by with_reducible assumption) ?_) | go_size))⟩
  · skip
    go_simp; obtain ⟨GP, hGP⟩ : ∃ G, wD.heap.size = G := ⟨_, rfl⟩; have le_P : w3.heap.size ≤ GP := by rw [← hGP]; exact Below.size hHeld
    have ne_P_X : GP ≠ GX := by have := HX.out.2.2; omega
    have ne_X_P : GX ≠ GP := Ne.symm ne_P_X
    have ne_P_Y : GP ≠ GY := by have := HY.out.2.2; omega
    have ne_Y_P : GY ≠ GP := Ne.symm ne_P_Y
    have ne_P_R : GP ≠ GR := by have := HR.out.2.2; omega
    have ne_R_P : GR ≠ GP := Ne.symm ne_P_R
    have HX := Lib.hid (HX.out.below ((Below.refl _ _).alloc (Nat.le_refl _) (.cells #[.int .i64 0, .int .i64 0, .int .i64 0, .int .i64 0] 26))); have HY := Lib.hid (HY.out.below ((Below.refl _ _).alloc (Nat.le_refl _) (.cells #[.int .i64 0, .int .i64 0, .int .i64 0, .int .i64 0] 26))); have HR := Lib.hid (HR.out.below ((Below.refl _ _).alloc (Nat.le_refl _) (.cells #[.int .i64 0, .int .i64 0, .int .i64 0, .int .i64 0] 26))); skip
    have HP : Hid (Bk4 (wD.alloc (.cells #[.int .i64 0, .int .i64 0, .int .i64 0, .int .i64 0] 26)) GP 0 0 0 0) := by rw [← hGP]; exact bk4_new wD 0 0 0 0 _
    refine hK.out _ _ (Below.alloc hHeld (Below.size hHeld) _) (fun hHeld2 => ?_); (clear hHeld; rename _ => hHeld; clear hK K; have hHeld : Below w3.heap.size w3 _ := hHeld); (try simp only [Act.put, List.getElem_toArray, List.getElem_cons_succ, List.getElem_cons_zero, List.setIfInBounds_toArray, List.set_cons_zero, List.set_cons_succ])
    rw [hGP]; clear hGP; obtain ⟨ywr0, hwx⟩ : ∃ wx, wD.alloc (.cells #[.int .i64 0, .int .i64 0, .int .i64 0, .int .i64 0] 26) = wx := ⟨_, rfl⟩; rw [hwx] at HX HY HR HP hHeld ⊢; clear hwx
    refine wpAnyH_ready (rs := [1]) (by kernel_rfl) (by simp) ?_; refine AllReadyH.cons rfl (fun K hK => ?_) AllReadyH.nil
    go_simp; (go_at_call 66; refine (HI.out _).mono ?_; rintro en ywr1 ⟨rfl, hb2⟩); have HX := Lib.hid (HX.out.below hb2); have HY := Lib.hid (HY.out.below hb2); have HR := Lib.hid (HR.out.below hb2); have HP := Lib.hid (HP.out.below hb2); refine hK.out _ _ (below_after hb2 hHeld) (fun hHeld2 => ?_); clear hb2; (clear hHeld; rename _ => hHeld; clear hK K; have hHeld : Below w3.heap.size w3 _ := hHeld); (try simp only [Act.put, List.getElem_toArray, List.getElem_cons_succ, List.getElem_cons_zero, List.setIfInBounds_toArray, List.set_cons_zero, List.set_cons_succ])
    refine wpAnyH_ready (rs := [3]) (by kernel_rfl) (by simp) ?_; refine AllReadyH.cons rfl (fun K hK => ?_) AllReadyH.nil
    go_simp; (go_at_call 65; refine (HM.out _).mono ?_; rintro en ywr2 ⟨rfl, hb2⟩); have HX := Lib.hid (HX.out.below hb2); have HY := Lib.hid (HY.out.below hb2); have HR := Lib.hid (HR.out.below hb2); have HP := Lib.hid (HP.out.below hb2); refine hK.out _ _ (below_after hb2 hHeld) (fun hHeld2 => ?_); clear hb2; (clear hHeld; rename _ => hHeld; clear hK K; have hHeld : Below w3.heap.size w3 _ := hHeld); (try simp only [Act.put, List.getElem_toArray, List.getElem_cons_succ, List.getElem_cons_zero, List.setIfInBounds_toArray, List.set_cons_zero, List.set_cons_succ])
    refine wpAnyH_ready (rs := [5]) (by kernel_rfl) (by simp) ?_; refine AllReadyH.cons rfl (fun K hK => ?_) AllReadyH.nil
    obtain ⟨⟨a0, a1, a2, a3⟩, ⟨f0, f1, f2, f3⟩, az⟩ := HP.out; go_simp; clear a0 f0 a1 f1 a2 f2 a3 f3 az
    have HX := Lib.hid ((((HX.out.far ⟨GP, 0, none⟩ (.int .i64 p) (by show GX ≠ GP; exact ne_X_P)).far ⟨GP, 1, none⟩ (.int .i64 q) (by show GX ≠ GP; exact ne_X_P)).far ⟨GP, 2, none⟩ (.int .i64 r) (by show GX ≠ GP; exact ne_X_P)).far ⟨GP, 3, none⟩ (.int .i64 s) (by show GX ≠ GP; exact ne_X_P))
    have HY := Lib.hid ((((HY.out.far ⟨GP, 0, none⟩ (.int .i64 p) (by show GY ≠ GP; exact ne_Y_P)).far ⟨GP, 1, none⟩ (.int .i64 q) (by show GY ≠ GP; exact ne_Y_P)).far ⟨GP, 2, none⟩ (.int .i64 r) (by show GY ≠ GP; exact ne_Y_P)).far ⟨GP, 3, none⟩ (.int .i64 s) (by show GY ≠ GP; exact ne_Y_P))
    have HR := Lib.hid ((((HR.out.far ⟨GP, 0, none⟩ (.int .i64 p) (by show GR ≠ GP; exact ne_R_P)).far ⟨GP, 1, none⟩ (.int .i64 q) (by show GR ≠ GP; exact ne_R_P)).far ⟨GP, 2, none⟩ (.int .i64 r) (by show GR ≠ GP; exact ne_R_P)).far ⟨GP, 3, none⟩ (.int .i64 s) (by show GR ≠ GP; exact ne_R_P))
    have HP := Lib.hid ((((HP.out.set0 p).set1 q).set2 r).set3 s)
    refine hK.out _ _ (Below.setCell (Below.setCell (Below.setCell (Below.setCell hHeld (p := ⟨GP, 0, none⟩) le_P _) (p := ⟨GP, 1, none⟩) le_P _) (p := ⟨GP, 2, none⟩) le_P _) (p := ⟨GP, 3, none⟩) le_P _) (fun hHeld2 => ?_); (clear hHeld; rename _ => hHeld; clear hK K; have hHeld : Below w3.heap.size w3 _ := hHeld); (try simp only [Act.put, List.getElem_toArray, List.getElem_cons_succ, List.getElem_cons_zero, List.setIfInBounds_toArray, List.set_cons_zero, List.set_cons_succ])
    obtain ⟨ywr3, hwx⟩ : ∃ wx, (((ywr2.setCell ⟨GP, 0, none⟩ (.int .i64 p)).setCell ⟨GP, 1, none⟩ (.int .i64 q)).setCell ⟨GP, 2, none⟩ (.int .i64 r)).setCell ⟨GP, 3, none⟩ (.int .i64 s) = wx := ⟨_, rfl⟩; rw [hwx] at HX HY HR HP hHeld ⊢; clear hwx
    refine wpAnyH_done (by kernel_rfl) ?_ _
    have le_P : w.heap.size ≤ GP := Nat.le_trans HB.out.size le_P
    have HB := Lib.hid (HB.out.trans (hHeld.mono HB.out.size))
    clear hHeld HXX
    obtain ⟨⟨qX0, qX1, qX2, qX3⟩, ⟨fX0, fX1, fX2, fX3⟩, zX⟩ := HX.out
    obtain ⟨⟨qY0, qY1, qY2, qY3⟩, ⟨fY0, fY1, fY2, fY3⟩, zY⟩ := HY.out
    obtain ⟨⟨qR0, qR1, qR2, qR3⟩, ⟨fR0, fR1, fR2, fR3⟩, zR⟩ := HR.out
    obtain ⟨⟨qP0, qP1, qP2, qP3⟩, ⟨fP0, fP1, fP2, fP3⟩, zP⟩ := HP.out
    go_wp2_with fail
    go_at_call 51
    refine (l01Matrix_any p q r s _).mono ?_
    rintro e w54 ⟨rfl, hb⟩
    clear qX0 fX0 qX1 fX1 qX2 fX2 qX3 fX3 zX qY0 fY0 qY1 fY1 qY2 fY2 qY3 fY3 zY qR0 fR0 qR1 fR1 qR2 fR2 qR3 fR3 zR qP0 fP0 qP1 fP1 qP2 fP2 qP3 fP3 zP
    have HX := Lib.hid (HX.out.below hb)
    have HY := Lib.hid (HY.out.below hb)
    have HR := Lib.hid (HR.out.below hb)
    have HP := Lib.hid (HP.out.below hb)
    have HB := Lib.hid (below_after hb HB.out)
    clear hb
    obtain ⟨⟨qX0, qX1, qX2, qX3⟩, ⟨fX0, fX1, fX2, fX3⟩, zX⟩ := HX.out
    obtain ⟨⟨qY0, qY1, qY2, qY3⟩, ⟨fY0, fY1, fY2, fY3⟩, zY⟩ := HY.out
    obtain ⟨⟨qR0, qR1, qR2, qR3⟩, ⟨fR0, fR1, fR2, fR3⟩, zR⟩ := HR.out
    obtain ⟨⟨qP0, qP1, qP2, qP3⟩, ⟨fP0, fP1, fP2, fP3⟩, zP⟩ := HP.out
    go_wp2_with fail
    go_at_call 65
    refine (HE.out _).mono ?_
    rintro e w55 ⟨rfl, hb⟩
    clear qX0 fX0 qX1 fX1 qX2 fX2 qX3 fX3 zX qY0 fY0 qY1 fY1 qY2 fY2 qY3 fY3 zY qR0 fR0 qR1 fR1 qR2 fR2 qR3 fR3 zR qP0 fP0 qP1 fP1 qP2 fP2 qP3 fP3 zP
    have HX := Lib.hid (HX.out.below hb)
    have HY := Lib.hid (HY.out.below hb)
    have HR := Lib.hid (HR.out.below hb)
    have HP := Lib.hid (HP.out.below hb)
    have HB := Lib.hid (below_after hb HB.out)
    clear hb
    obtain ⟨⟨qX0, qX1, qX2, qX3⟩, ⟨fX0, fX1, fX2, fX3⟩, zX⟩ := HX.out
    obtain ⟨⟨qY0, qY1, qY2, qY3⟩, ⟨fY0, fY1, fY2, fY3⟩, zY⟩ := HY.out
    obtain ⟨⟨qR0, qR1, qR2, qR3⟩, ⟨fR0, fR1, fR2, fR3⟩, zR⟩ := HR.out
    obtain ⟨⟨qP0, qP1, qP2, qP3⟩, ⟨fP0, fP1, fP2, fP3⟩, zP⟩ := HP.out
    go_upto_region 9 with fail
    obtain ⟨GV, hGV⟩ : ∃ g, w55.heap.size = g := ⟨_, rfl⟩
    obtain ⟨w56, hw56⟩ : ∃ wx, wx = w55.alloc (.cells #[.int .i64 P, .int .i64 Q, .int .i64 R, .int .i64 S] 26) := ⟨_, rfl⟩
    rw [← hw56, hGV]
    have HV : Hid (Bk4 w56 GV P Q R S) := by rw [hw56, ← hGV]; exact bk4_new w55 P Q R S _
    have le_V : w.heap.size ≤ GV := by rw [← hGV]; exact HB.out.size
    have ne_V_X : GV ≠ GX := by have := HX.out.2.2; omega
    have ne_X_V : GX ≠ GV := Ne.symm ne_V_X
    have ne_V_Y : GV ≠ GY := by have := HY.out.2.2; omega
    have ne_Y_V : GY ≠ GV := Ne.symm ne_V_Y
    have ne_V_R : GV ≠ GR := by have := HR.out.2.2; omega
    have ne_R_V : GR ≠ GV := Ne.symm ne_V_R
    have ne_V_P : GV ≠ GP := by have := HP.out.2.2; omega
    have ne_P_V : GP ≠ GV := Ne.symm ne_V_P
    clear qX0 fX0 qX1 fX1 qX2 fX2 qX3 fX3 zX qY0 fY0 qY1 fY1 qY2 fY2 qY3 fY3 zY qR0 fR0 qR1 fR1 qR2 fR2 qR3 fR3 zR qP0 fP0 qP1 fP1 qP2 fP2 qP3 fP3 zP
    have HX := Lib.hid (HX.out.below ((Below.refl _ _).alloc (Nat.le_refl _) (.cells #[.int .i64 P, .int .i64 Q, .int .i64 R, .int .i64 S] 26)))
    have HY := Lib.hid (HY.out.below ((Below.refl _ _).alloc (Nat.le_refl _) (.cells #[.int .i64 P, .int .i64 Q, .int .i64 R, .int .i64 S] 26)))
    have HR := Lib.hid (HR.out.below ((Below.refl _ _).alloc (Nat.le_refl _) (.cells #[.int .i64 P, .int .i64 Q, .int .i64 R, .int .i64 S] 26)))
    have HP := Lib.hid (HP.out.below ((Below.refl _ _).alloc (Nat.le_refl _) (.cells #[.int .i64 P, .int .i64 Q, .int .i64 R, .int .i64 S] 26)))
    have HB := Lib.hid (Below.alloc HB.out HB.out.size (.cells #[.int .i64 P, .int .i64 Q, .int .i64 R, .int .i64 S] 26))
    rw [← hw56] at HX HY HR HP HB
    clear hw56 hGV
    obtain ⟨⟨qX0, qX1, qX2, qX3⟩, ⟨fX0, fX1, fX2, fX3⟩, zX⟩ := HX.out
    obtain ⟨⟨qY0, qY1, qY2, qY3⟩, ⟨fY0, fY1, fY2, fY3⟩, zY⟩ := HY.out
    obtain ⟨⟨qR0, qR1, qR2, qR3⟩, ⟨fR0, fR1, fR2, fR3⟩, zR⟩ := HR.out
    obtain ⟨⟨qP0, qP1, qP2, qP3⟩, ⟨fP0, fP1, fP2, fP3⟩, zP⟩ := HP.out
    obtain ⟨⟨qV0, qV1, qV2, qV3⟩, ⟨fV0, fV1, fV2, fV3⟩, zV⟩ := HV.out
    go_wp2_with fail
    go_at_call 51
    refine (l01Matrix_any P Q R S _).mono ?_
    rintro e w57 ⟨rfl, hb⟩
    clear qX0 fX0 qX1 fX1 qX2 fX2 qX3 fX3 zX qY0 fY0 qY1 fY1 qY2 fY2 qY3 fY3 zY qR0 fR0 qR1 fR1 qR2 fR2 qR3 fR3 zR qP0 fP0 qP1 fP1 qP2 fP2 qP3 fP3 zP qV0 fV0 qV1 fV1 qV2 fV2 qV3 fV3 zV
    have HX := Lib.hid (HX.out.below hb)
    have HY := Lib.hid (HY.out.below hb)
    have HR := Lib.hid (HR.out.below hb)
    have HP := Lib.hid (HP.out.below hb)
    have HV := Lib.hid (HV.out.below hb)
    have HB := Lib.hid (below_after hb HB.out)
    clear hb
    obtain ⟨⟨qX0, qX1, qX2, qX3⟩, ⟨fX0, fX1, fX2, fX3⟩, zX⟩ := HX.out
    obtain ⟨⟨qY0, qY1, qY2, qY3⟩, ⟨fY0, fY1, fY2, fY3⟩, zY⟩ := HY.out
    obtain ⟨⟨qR0, qR1, qR2, qR3⟩, ⟨fR0, fR1, fR2, fR3⟩, zR⟩ := HR.out
    obtain ⟨⟨qP0, qP1, qP2, qP3⟩, ⟨fP0, fP1, fP2, fP3⟩, zP⟩ := HP.out
    obtain ⟨⟨qV0, qV1, qV2, qV3⟩, ⟨fV0, fV1, fV2, fV3⟩, zV⟩ := HV.out
    go_wp2_with fail
    refine bodyPost_ret (v := .tuple #[.agg #[.int .i64 P, .int .i64 Q, .int .i64 R, .int .i64 S], .int .i64 0]) (by simp (maxDischargeDepth := 8) [results, Try.results25, go_sem, *]) rfl ?_
    have hb := HB.out
    exact ⟨rfl, by (repeat' (first | (with_reducible exact Below.refl _ _) | (with_reducible refine Below.alloc ?_ ?_ _) | (with_reducible refine Below.setCell ?_ ?_ _) | (with_reducible refine Below.drew ?_) | (with_reducible refine below_drewN ?_ _) | (with_reducible assumption) | (with_reducible refine below_after (by with_reducible assumption) ?_) | go_size))⟩
theorem inv_mx {e f g h : Int} (h1 : isMx e f g h = true) (hu : detP (e, f) (g, h) = 1 ∨ detP (e, f) (g, h) = -1) : isMx (detP (e, f) (g, h) * h) (-detP (e, f) (g, h) * f) (-detP (e, f) (g, h) * g) (detP (e, f) (g, h) * e) = true := by
  obtain ⟨k0, k1⟩ := isMx_parts h1
  have := isPt_c1 k0
  have := isPt_c2 k0
  have := isPt_c1 k1
  have := isPt_c2 k1
  simp only [isMx, isPt, Bool.and_eq_true]
  rcases hu with hu | hu <;> rw [hu] <;> exact ⟨⟨crd_iff.2 ⟨by omega, by omega⟩, crd_iff.2 ⟨by omega, by omega⟩⟩, crd_iff.2 ⟨by omega, by omega⟩, crd_iff.2 ⟨by omega, by omega⟩⟩
/-- Both answer the same. -/
theorem Conj_both (a b c d e f g h : Int) : ∃ o0 o1 o2 o3 x : Int, (∀ w, Calls Try.prog 25 #[.agg #[.int .i64 a, .int .i64 b, .int .i64 c, .int .i64 d], .agg #[.int .i64 e, .int .i64 f, .int .i64 g, .int .i64 h]] w fun e1 w' => e1 = .returned (.tuple #[.agg #[.int .i64 o0, .int .i64 o1, .int .i64 o2, .int .i64 o3], .int .i64 x]) ∧ Below w.heap.size w w') ∧ (∀ w, Calls Try.prog 26 #[.agg #[.int .i64 a, .int .i64 b, .int .i64 c, .int .i64 d], .agg #[.int .i64 e, .int .i64 f, .int .i64 g, .int .i64 h]] w fun e1 w' => e1 = .returned (.tuple #[.agg #[.int .i64 o0, .int .i64 o1, .int .i64 o2, .int .i64 o3], .int .i64 x]) ∧ Below w.heap.size w w') := by
  cases h0 : isMx a b c d
  · exact ⟨0, 0, 0, 0, 1, fun w => spec_Conj_no _ _ _ _ _ _ _ _ w (by rw [h0]; rfl), fun w => impl_Conj_no _ _ _ _ _ _ _ _ w h0⟩
  · cases h1 : isMx e f g h
    · exact ⟨0, 0, 0, 0, 1, fun w => spec_Conj_no _ _ _ _ _ _ _ _ w (by rw [h1, Bool.and_false]), fun w => impl_Conj_inv _ _ _ _ _ _ _ _ 1 w h0 rfl (fun w => impl_InverseMatrix_no e f g h w h1)⟩
    · by_cases hu : detP (e, f) (g, h) = 1 ∨ detP (e, f) (g, h) = -1
      · have hI := inv_mx h1 hu
        have ki := impl_InverseMatrix_yes e f g h
        have km := l01Minus_any e f g h
        have ku := fun w => l01Unit_yes e f g h w h1 hu
        obtain ⟨i, hi⟩ : ∃ i, detP (e, f) (g, h) * h = i := ⟨_, rfl⟩
        obtain ⟨j, hj⟩ : ∃ i, -detP (e, f) (g, h) * f = i := ⟨_, rfl⟩
        obtain ⟨k, hk⟩ : ∃ i, -detP (e, f) (g, h) * g = i := ⟨_, rfl⟩
        obtain ⟨l, hl⟩ : ∃ i, detP (e, f) (g, h) * e = i := ⟨_, rfl⟩
        rw [hi, hj, hk, hl] at hI
        have ki' : Hid (∀ w, Calls Try.prog 67 #[.agg #[.int .i64 e, .int .i64 f, .int .i64 g, .int .i64 h]] w fun e w' => e = .returned (.tuple #[.agg #[.int .i64 i, .int .i64 j, .int .i64 k, .int .i64 l], .int .i64 0]) ∧ Below w.heap.size w w') := fun w => by have := ki w h1 hu; rwa [hi, hj, hk, hl] at this
        have km' : Hid (∀ w, Calls Try.prog 66 #[.agg #[.int .i64 e, .int .i64 f, .int .i64 g, .int .i64 h]] w fun e w' => e = .returned (.agg #[.int .i64 i, .int .i64 j, .int .i64 k, .int .i64 l]) ∧ Below w.heap.size w w') := fun w => by have := km w h1 hu; rwa [hi, hj, hk, hl] at this
        obtain ⟨i0, i1⟩ := isMx_parts hI
        obtain ⟨m0, m1⟩ := isMx_parts h0
        obtain ⟨u0, u1⟩ := isMx_parts h1
        have kt : Hid (∀ w, Calls Try.prog 65 #[.agg #[.int .i64 i, .int .i64 j, .int .i64 k, .int .i64 l], .agg #[.int .i64 a, .int .i64 b, .int .i64 c, .int .i64 d]] w fun e w' => e = .returned (.agg #[.int .i64 (i * a + j * c), .int .i64 (i * b + j * d), .int .i64 (k * a + l * c), .int .i64 (k * b + l * d)]) ∧ Below w.heap.size w w') := fun w => l01Times_any i j k l a b c d w (isPt_bn1 i0) (isPt_bn2 i0) (isPt_bn1 i1) (isPt_bn2 i1) (isPt_bn1 m0) (isPt_bn2 m0) (isPt_bn1 m1) (isPt_bn2 m1)
        have ky := fun w hp => impl_MultiplyMatrices_yes i j k l a b c d w hI h0 hp
        have kl := fun w hp => impl_MultiplyMatrices_limit i j k l a b c d w hI h0 hp
        obtain ⟨p, hp⟩ : ∃ z, i * a + j * c = z := ⟨_, rfl⟩
        obtain ⟨q, hq⟩ : ∃ z, i * b + j * d = z := ⟨_, rfl⟩
        obtain ⟨r, hr⟩ : ∃ z, k * a + l * c = z := ⟨_, rfl⟩
        obtain ⟨s, hs⟩ : ∃ z, k * b + l * d = z := ⟨_, rfl⟩
        rw [hp, hq, hr, hs] at kt ky kl
        cases h2 : isMx p q r s
        · exact ⟨0, 0, 0, 0, 3, fun w => spec_Conj_lim _ _ _ _ _ _ _ _ i j k l p q r s w h0 h1 h2 ku km' kt, fun w => impl_Conj_lim _ _ _ _ _ _ _ _ i j k l w h0 ki' (fun w => kl w h2)⟩
        · obtain ⟨p0, p1⟩ := isMx_parts h2
          have kt2 : Hid (∀ w, Calls Try.prog 65 #[.agg #[.int .i64 p, .int .i64 q, .int .i64 r, .int .i64 s], .agg #[.int .i64 e, .int .i64 f, .int .i64 g, .int .i64 h]] w fun e1 w' => e1 = .returned (.agg #[.int .i64 (p * e + q * g), .int .i64 (p * f + q * h), .int .i64 (r * e + s * g), .int .i64 (r * f + s * h)]) ∧ Below w.heap.size w w') := fun w => l01Times_any p q r s e f g h w (isPt_bn1 p0) (isPt_bn2 p0) (isPt_bn1 p1) (isPt_bn2 p1) (isPt_bn1 u0) (isPt_bn2 u0) (isPt_bn1 u1) (isPt_bn2 u1)
          have ky2 := fun w hp => impl_MultiplyMatrices_yes p q r s e f g h w h2 h1 hp
          have kl2 := fun w hp => impl_MultiplyMatrices_limit p q r s e f g h w h2 h1 hp
          obtain ⟨P, hP⟩ : ∃ z, p * e + q * g = z := ⟨_, rfl⟩
          obtain ⟨Q, hQ⟩ : ∃ z, p * f + q * h = z := ⟨_, rfl⟩
          obtain ⟨R, hR⟩ : ∃ z, r * e + s * g = z := ⟨_, rfl⟩
          obtain ⟨S, hS⟩ : ∃ z, r * f + s * h = z := ⟨_, rfl⟩
          rw [hP, hQ, hR, hS] at kt2 ky2 kl2
          cases h3 : isMx P Q R S
          · exact ⟨0, 0, 0, 0, 3, fun w => spec_Conj_lim2 _ _ _ _ _ _ _ _ i j k l p q r s P Q R S w h0 h1 h2 h3 ku km' kt kt2, fun w => impl_Conj_end _ _ _ _ _ _ _ _ i j k l p q r s 0 0 0 0 3 w h0 ki' (fun w => ky w h2) (fun w => kl2 w h3)⟩
          · exact ⟨P, Q, R, S, 0, fun w => spec_Conj_end _ _ _ _ _ _ _ _ i j k l p q r s P Q R S w h0 h1 h2 h3 ku km' kt kt2, fun w => impl_Conj_end _ _ _ _ _ _ _ _ i j k l p q r s P Q R S 0 w h0 ki' (fun w => ky w h2) (fun w => ky2 w h3)⟩
      · exact ⟨0, 0, 0, 0, 5, fun w => spec_Conj_state _ _ _ _ _ _ _ _ w h0 h1 (fun w => l01Unit_no e f g h w h1 hu), fun w => impl_Conj_inv _ _ _ _ _ _ _ _ 5 w h0 rfl (fun w => impl_InverseMatrix_state e f g h w h1 hu)⟩
end Go.Proofs.Ytohnmogejidpdaa
