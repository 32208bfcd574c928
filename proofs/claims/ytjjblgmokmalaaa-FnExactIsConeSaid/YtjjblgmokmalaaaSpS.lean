/-
  The model's functions on spots, cones and tetrahedra (own work).
-/
import Derived.Test.YtjjblgmokmalaaaSpA
namespace Go.Proofs.Ytjjblgmokmalaaa
open Go.ChangeShapes Go.WideShapes Go.ChangeAt Go.RowKit
set_option linter.unusedVariables false
set_option linter.unusedSimpArgs false
set_option maxRecDepth 100000

set_option maxHeartbeats 800000 in
theorem l08Cross_any (a0 a1 a2 b0 b1 b2 : Int) (w : World) (h : W3 1000000 a0 a1 a2) (g : W3 1000000 b0 b1 b2) :
    Calls Try.prog 32 #[.agg #[.int .i64 a0, .int .i64 a1, .int .i64 a2], .agg #[.int .i64 b0, .int .i64 b1, .int .i64 b2]] w fun e w' => e = .returned (.agg #[.int .i64 (crX a0 a1 a2 b0 b1 b2), .int .i64 (crY a0 a1 a2 b0 b1 b2), .int .i64 (crZ a0 a1 a2 b0 b1 b2)]) ∧ Below w.heap.size w w' := by
  obtain ⟨p0, q0⟩ := h.2.1.mul g.2.2
  obtain ⟨p1, q1⟩ := h.2.2.mul g.2.1
  obtain ⟨p2, q2⟩ := h.2.2.mul g.1
  obtain ⟨p3, q3⟩ := h.1.mul g.2.2
  obtain ⟨p4, q4⟩ := h.1.mul g.2.1
  obtain ⟨p5, q5⟩ := h.2.1.mul g.1
  clear h g
  obtain ⟨GA, hG⟩ : ∃ G, w.heap.size = G := ⟨_, rfl⟩
  have HG := Lib.hid hG
  go_enter Try.func32, Try.ntmps32
  go_upto_region 1 with fail
  obtain ⟨w0, hw0⟩ : ∃ w0, w0 = (((w.alloc (.cells #[.int .i64 a0, .int .i64 a1, .int .i64 a2] 24)).alloc (.cells #[.int .i64 b0, .int .i64 b1, .int .i64 b2] 24)).alloc (.cells #[.int .i64 0, .int .i64 0, .int .i64 0] 24)) := ⟨_, rfl⟩
  rw [← hw0]
  have HA : Hid (Bk3 w0 GA a0 a1 a2) := by
    have h := (bk3_new w a0 a1 a2 24).below (W' := (((w.alloc (.cells #[.int .i64 a0, .int .i64 a1, .int .i64 a2] 24)).alloc (.cells #[.int .i64 b0, .int .i64 b1, .int .i64 b2] 24)).alloc (.cells #[.int .i64 0, .int .i64 0, .int .i64 0] 24))) (by (repeat' (first | (with_reducible exact Below.refl _ _) | (with_reducible refine Below.alloc ?_ ?_ _) | (with_reducible refine Below.setCell ?_ ?_ _) | (with_reducible refine Below.drew ?_) | (with_reducible refine below_drewN ?_ _) | (with_reducible assumption) | (with_reducible refine below_after (by with_reducible assumption) ?_) | go_size)))
    (try simp only [World.size_alloc] at h)
    rw [hG] at h
    rw [hw0]; exact h
  have HV : Hid (Bk3 w0 (GA + 1) b0 b1 b2) := by
    have h := (bk3_new (w.alloc (.cells #[.int .i64 a0, .int .i64 a1, .int .i64 a2] 24)) b0 b1 b2 24).below (W' := (((w.alloc (.cells #[.int .i64 a0, .int .i64 a1, .int .i64 a2] 24)).alloc (.cells #[.int .i64 b0, .int .i64 b1, .int .i64 b2] 24)).alloc (.cells #[.int .i64 0, .int .i64 0, .int .i64 0] 24))) (by (repeat' (first | (with_reducible exact Below.refl _ _) | (with_reducible refine Below.alloc ?_ ?_ _) | (with_reducible refine Below.setCell ?_ ?_ _) | (with_reducible refine Below.drew ?_) | (with_reducible refine below_drewN ?_ _) | (with_reducible assumption) | (with_reducible refine below_after (by with_reducible assumption) ?_) | go_size)))
    (try simp only [World.size_alloc] at h)
    rw [hG] at h
    rw [hw0]; exact h
  have HR : Hid (Bk3 w0 (GA + 1 + 1) 0 0 0) := by
    have h := (bk3_new ((w.alloc (.cells #[.int .i64 a0, .int .i64 a1, .int .i64 a2] 24)).alloc (.cells #[.int .i64 b0, .int .i64 b1, .int .i64 b2] 24)) 0 0 0 24).below (W' := (((w.alloc (.cells #[.int .i64 a0, .int .i64 a1, .int .i64 a2] 24)).alloc (.cells #[.int .i64 b0, .int .i64 b1, .int .i64 b2] 24)).alloc (.cells #[.int .i64 0, .int .i64 0, .int .i64 0] 24))) (by (repeat' (first | (with_reducible exact Below.refl _ _) | (with_reducible refine Below.alloc ?_ ?_ _) | (with_reducible refine Below.setCell ?_ ?_ _) | (with_reducible refine Below.drew ?_) | (with_reducible refine below_drewN ?_ _) | (with_reducible assumption) | (with_reducible refine below_after (by with_reducible assumption) ?_) | go_size)))
    (try simp only [World.size_alloc] at h)
    rw [hG] at h
    rw [hw0]; exact h
  have HB : Hid (Below w.heap.size w w0) := by show Below w.heap.size w w0; rw [hw0]; (repeat' (first | (with_reducible exact Below.refl _ _) | (with_reducible refine Below.alloc ?_ ?_ _) | (with_reducible refine Below.setCell ?_ ?_ _) | (with_reducible refine Below.drew ?_) | (with_reducible refine below_drewN ?_ _) | (with_reducible assumption) | (with_reducible refine below_after (by with_reducible assumption) ?_) | go_size))
  clear hw0
  obtain ⟨GR, hGR⟩ : ∃ g, GA + 1 + 1 = g := ⟨_, rfl⟩
  rw [hGR] at HR ⊢
  obtain ⟨GV, hGV⟩ : ∃ g, GA + 1 = g := ⟨_, rfl⟩
  rw [hGV] at HV ⊢
  have le_A : w.heap.size ≤ GA := by omega
  have le_V : w.heap.size ≤ GV := by omega
  have ne_V_A : GV ≠ GA := by omega
  have ne_A_V : GA ≠ GV := by omega
  have le_R : w.heap.size ≤ GR := by omega
  have ne_R_A : GR ≠ GA := by omega
  have ne_A_R : GA ≠ GR := by omega
  have ne_R_V : GR ≠ GV := by omega
  have ne_V_R : GV ≠ GR := by omega
  clear hGV hGR
  obtain ⟨⟨qA0, qA1, qA2⟩, ⟨fA0, fA1, fA2⟩, zA⟩ := HA.out
  obtain ⟨⟨qV0, qV1, qV2⟩, ⟨fV0, fV1, fV2⟩, zV⟩ := HV.out
  obtain ⟨⟨qR0, qR1, qR2⟩, ⟨fR0, fR1, fR2⟩, zR⟩ := HR.out
  go_upto_region 2 with fail
  obtain ⟨GO, hGO⟩ : ∃ g, w0.heap.size = g := ⟨_, rfl⟩
  obtain ⟨w1, hw1⟩ : ∃ wx, wx = w0.alloc (.cells #[.int .i64 0, .int .i64 0, .int .i64 0] 24) := ⟨_, rfl⟩
  rw [← hw1, hGO]
  have HO : Hid (Bk3 w1 GO 0 0 0) := by rw [hw1, ← hGO]; exact bk3_new w0 0 0 0 _
  have le_O : w.heap.size ≤ GO := by rw [← hGO]; exact HB.out.size
  have ne_O_A : GO ≠ GA := by have := HA.out.2.2; omega
  have ne_A_O : GA ≠ GO := Ne.symm ne_O_A
  have ne_O_V : GO ≠ GV := by have := HV.out.2.2; omega
  have ne_V_O : GV ≠ GO := Ne.symm ne_O_V
  have ne_O_R : GO ≠ GR := by have := HR.out.2.2; omega
  have ne_R_O : GR ≠ GO := Ne.symm ne_O_R
  clear qA0 fA0 qA1 fA1 qA2 fA2 zA qV0 fV0 qV1 fV1 qV2 fV2 zV qR0 fR0 qR1 fR1 qR2 fR2 zR
  have HA := Lib.hid (HA.out.below ((Below.refl _ _).alloc (Nat.le_refl _) (.cells #[.int .i64 0, .int .i64 0, .int .i64 0] 24)))
  have HV := Lib.hid (HV.out.below ((Below.refl _ _).alloc (Nat.le_refl _) (.cells #[.int .i64 0, .int .i64 0, .int .i64 0] 24)))
  have HR := Lib.hid (HR.out.below ((Below.refl _ _).alloc (Nat.le_refl _) (.cells #[.int .i64 0, .int .i64 0, .int .i64 0] 24)))
  have HB := Lib.hid (Below.alloc HB.out HB.out.size (.cells #[.int .i64 0, .int .i64 0, .int .i64 0] 24))
  rw [← hw1] at HA HV HR HB
  clear hw1 hGO
  go_wp2_with fail
  refine wp_loop_rounds 4 ?_
  rw [rounds_succ]
  obtain ⟨⟨qA0, qA1, qA2⟩, ⟨fA0, fA1, fA2⟩, zA⟩ := HA.out
  obtain ⟨⟨qV0, qV1, qV2⟩, ⟨fV0, fV1, fV2⟩, zV⟩ := HV.out
  obtain ⟨⟨qR0, qR1, qR2⟩, ⟨fR0, fR1, fR2⟩, zR⟩ := HR.out
  obtain ⟨⟨qO0, qO1, qO2⟩, ⟨fO0, fO1, fO2⟩, zO⟩ := HO.out
  go_upto_region 6 with fail
  go_still_tail 17, (by kernel_rfl)
  change wpList _ _ _ _ _ (World.drew _)
  obtain ⟨w2, hw2⟩ : ∃ wx, w1.drew = wx := ⟨_, rfl⟩
  rw [hw2]
  clear qA0 fA0 qA1 fA1 qA2 fA2 zA qV0 fV0 qV1 fV1 qV2 fV2 zV qR0 fR0 qR1 fR1 qR2 fR2 zR qO0 fO0 qO1 fO1 qO2 fO2 zO
  have HA := Lib.hid (HA.out.below (Below.drew (Below.refl _ _)))
  have HV := Lib.hid (HV.out.below (Below.drew (Below.refl _ _)))
  have HR := Lib.hid (HR.out.below (Below.drew (Below.refl _ _)))
  have HO := Lib.hid (HO.out.below (Below.drew (Below.refl _ _)))
  have HB := Lib.hid (Below.drew HB.out)
  rw [hw2] at HA HV HR HO HB
  clear hw2
  obtain ⟨⟨qA0, qA1, qA2⟩, ⟨fA0, fA1, fA2⟩, zA⟩ := HA.out
  obtain ⟨⟨qV0, qV1, qV2⟩, ⟨fV0, fV1, fV2⟩, zV⟩ := HV.out
  obtain ⟨⟨qR0, qR1, qR2⟩, ⟨fR0, fR1, fR2⟩, zR⟩ := HR.out
  obtain ⟨⟨qO0, qO1, qO2⟩, ⟨fO0, fO1, fO2⟩, zO⟩ := HO.out
  go_wp2_with fail
  obtain ⟨w3, hw3⟩ : ∃ wx, wx = (w2.setCell ⟨GO, 0, none⟩ (.int .i64 (a1 * b2 - a2 * b1))) := ⟨_, rfl⟩
  rw [← hw3]
  clear qA0 fA0 qA1 fA1 qA2 fA2 zA qV0 fV0 qV1 fV1 qV2 fV2 zV qR0 fR0 qR1 fR1 qR2 fR2 zR qO0 fO0 qO1 fO1 qO2 fO2 zO
  have HA := Lib.hid (HA.out.far ⟨GO, 0, none⟩ (.int .i64 (a1 * b2 - a2 * b1)) (by show GA ≠ GO; exact ne_A_O))
  have HV := Lib.hid (HV.out.far ⟨GO, 0, none⟩ (.int .i64 (a1 * b2 - a2 * b1)) (by show GV ≠ GO; exact ne_V_O))
  have HR := Lib.hid (HR.out.far ⟨GO, 0, none⟩ (.int .i64 (a1 * b2 - a2 * b1)) (by show GR ≠ GO; exact ne_R_O))
  have HO := Lib.hid (HO.out.set0 (a1 * b2 - a2 * b1))
  have HB := Lib.hid (Below.setCell HB.out (p := ⟨GO, 0, none⟩) le_O (.int .i64 (a1 * b2 - a2 * b1)))
  rw [← hw3] at HA HV HR HO HB
  clear hw3
  rw [rounds_succ]
  obtain ⟨⟨qA0, qA1, qA2⟩, ⟨fA0, fA1, fA2⟩, zA⟩ := HA.out
  obtain ⟨⟨qV0, qV1, qV2⟩, ⟨fV0, fV1, fV2⟩, zV⟩ := HV.out
  obtain ⟨⟨qR0, qR1, qR2⟩, ⟨fR0, fR1, fR2⟩, zR⟩ := HR.out
  obtain ⟨⟨qO0, qO1, qO2⟩, ⟨fO0, fO1, fO2⟩, zO⟩ := HO.out
  go_upto_region 6 with fail
  go_still_tail 17, (by kernel_rfl)
  change wpList _ _ _ _ _ (World.drew _)
  obtain ⟨w4, hw4⟩ : ∃ wx, w3.drew = wx := ⟨_, rfl⟩
  rw [hw4]
  clear qA0 fA0 qA1 fA1 qA2 fA2 zA qV0 fV0 qV1 fV1 qV2 fV2 zV qR0 fR0 qR1 fR1 qR2 fR2 zR qO0 fO0 qO1 fO1 qO2 fO2 zO
  have HA := Lib.hid (HA.out.below (Below.drew (Below.refl _ _)))
  have HV := Lib.hid (HV.out.below (Below.drew (Below.refl _ _)))
  have HR := Lib.hid (HR.out.below (Below.drew (Below.refl _ _)))
  have HO := Lib.hid (HO.out.below (Below.drew (Below.refl _ _)))
  have HB := Lib.hid (Below.drew HB.out)
  rw [hw4] at HA HV HR HO HB
  clear hw4
  obtain ⟨⟨qA0, qA1, qA2⟩, ⟨fA0, fA1, fA2⟩, zA⟩ := HA.out
  obtain ⟨⟨qV0, qV1, qV2⟩, ⟨fV0, fV1, fV2⟩, zV⟩ := HV.out
  obtain ⟨⟨qR0, qR1, qR2⟩, ⟨fR0, fR1, fR2⟩, zR⟩ := HR.out
  obtain ⟨⟨qO0, qO1, qO2⟩, ⟨fO0, fO1, fO2⟩, zO⟩ := HO.out
  go_wp2_with fail
  obtain ⟨w5, hw5⟩ : ∃ wx, wx = (w4.setCell ⟨GO, 1, none⟩ (.int .i64 (a2 * b0 - a0 * b2))) := ⟨_, rfl⟩
  rw [← hw5]
  clear qA0 fA0 qA1 fA1 qA2 fA2 zA qV0 fV0 qV1 fV1 qV2 fV2 zV qR0 fR0 qR1 fR1 qR2 fR2 zR qO0 fO0 qO1 fO1 qO2 fO2 zO
  have HA := Lib.hid (HA.out.far ⟨GO, 1, none⟩ (.int .i64 (a2 * b0 - a0 * b2)) (by show GA ≠ GO; exact ne_A_O))
  have HV := Lib.hid (HV.out.far ⟨GO, 1, none⟩ (.int .i64 (a2 * b0 - a0 * b2)) (by show GV ≠ GO; exact ne_V_O))
  have HR := Lib.hid (HR.out.far ⟨GO, 1, none⟩ (.int .i64 (a2 * b0 - a0 * b2)) (by show GR ≠ GO; exact ne_R_O))
  have HO := Lib.hid (HO.out.set1 (a2 * b0 - a0 * b2))
  have HB := Lib.hid (Below.setCell HB.out (p := ⟨GO, 1, none⟩) le_O (.int .i64 (a2 * b0 - a0 * b2)))
  rw [← hw5] at HA HV HR HO HB
  clear hw5
  rw [rounds_succ]
  obtain ⟨⟨qA0, qA1, qA2⟩, ⟨fA0, fA1, fA2⟩, zA⟩ := HA.out
  obtain ⟨⟨qV0, qV1, qV2⟩, ⟨fV0, fV1, fV2⟩, zV⟩ := HV.out
  obtain ⟨⟨qR0, qR1, qR2⟩, ⟨fR0, fR1, fR2⟩, zR⟩ := HR.out
  obtain ⟨⟨qO0, qO1, qO2⟩, ⟨fO0, fO1, fO2⟩, zO⟩ := HO.out
  go_upto_region 6 with fail
  go_still_tail 17, (by kernel_rfl)
  change wpList _ _ _ _ _ (World.drew _)
  obtain ⟨w6, hw6⟩ : ∃ wx, w5.drew = wx := ⟨_, rfl⟩
  rw [hw6]
  clear qA0 fA0 qA1 fA1 qA2 fA2 zA qV0 fV0 qV1 fV1 qV2 fV2 zV qR0 fR0 qR1 fR1 qR2 fR2 zR qO0 fO0 qO1 fO1 qO2 fO2 zO
  have HA := Lib.hid (HA.out.below (Below.drew (Below.refl _ _)))
  have HV := Lib.hid (HV.out.below (Below.drew (Below.refl _ _)))
  have HR := Lib.hid (HR.out.below (Below.drew (Below.refl _ _)))
  have HO := Lib.hid (HO.out.below (Below.drew (Below.refl _ _)))
  have HB := Lib.hid (Below.drew HB.out)
  rw [hw6] at HA HV HR HO HB
  clear hw6
  obtain ⟨⟨qA0, qA1, qA2⟩, ⟨fA0, fA1, fA2⟩, zA⟩ := HA.out
  obtain ⟨⟨qV0, qV1, qV2⟩, ⟨fV0, fV1, fV2⟩, zV⟩ := HV.out
  obtain ⟨⟨qR0, qR1, qR2⟩, ⟨fR0, fR1, fR2⟩, zR⟩ := HR.out
  obtain ⟨⟨qO0, qO1, qO2⟩, ⟨fO0, fO1, fO2⟩, zO⟩ := HO.out
  go_wp2_with fail
  obtain ⟨w7, hw7⟩ : ∃ wx, wx = (w6.setCell ⟨GO, 2, none⟩ (.int .i64 (a0 * b1 - a1 * b0))) := ⟨_, rfl⟩
  rw [← hw7]
  clear qA0 fA0 qA1 fA1 qA2 fA2 zA qV0 fV0 qV1 fV1 qV2 fV2 zV qR0 fR0 qR1 fR1 qR2 fR2 zR qO0 fO0 qO1 fO1 qO2 fO2 zO
  have HA := Lib.hid (HA.out.far ⟨GO, 2, none⟩ (.int .i64 (a0 * b1 - a1 * b0)) (by show GA ≠ GO; exact ne_A_O))
  have HV := Lib.hid (HV.out.far ⟨GO, 2, none⟩ (.int .i64 (a0 * b1 - a1 * b0)) (by show GV ≠ GO; exact ne_V_O))
  have HR := Lib.hid (HR.out.far ⟨GO, 2, none⟩ (.int .i64 (a0 * b1 - a1 * b0)) (by show GR ≠ GO; exact ne_R_O))
  have HO := Lib.hid (HO.out.set2 (a0 * b1 - a1 * b0))
  have HB := Lib.hid (Below.setCell HB.out (p := ⟨GO, 2, none⟩) le_O (.int .i64 (a0 * b1 - a1 * b0)))
  rw [← hw7] at HA HV HR HO HB
  clear hw7
  rw [rounds_succ]
  obtain ⟨⟨qA0, qA1, qA2⟩, ⟨fA0, fA1, fA2⟩, zA⟩ := HA.out
  obtain ⟨⟨qV0, qV1, qV2⟩, ⟨fV0, fV1, fV2⟩, zV⟩ := HV.out
  obtain ⟨⟨qR0, qR1, qR2⟩, ⟨fR0, fR1, fR2⟩, zR⟩ := HR.out
  obtain ⟨⟨qO0, qO1, qO2⟩, ⟨fO0, fO1, fO2⟩, zO⟩ := HO.out
  go_wp2_with fail
  refine bodyPost_ret (v := .agg #[.int .i64 (a1 * b2 - a2 * b1), .int .i64 (a2 * b0 - a0 * b2), .int .i64 (a0 * b1 - a1 * b0)]) (by simp (maxDischargeDepth := 8) [results, Try.results32, go_sem, *]) rfl ?_
  have hb := HB.out
  exact ⟨rfl, by (repeat' (first | (with_reducible exact Below.refl _ _) | (with_reducible refine Below.alloc ?_ ?_ _) | (with_reducible refine Below.setCell ?_ ?_ _) | (with_reducible refine Below.drew ?_) | (with_reducible refine below_drewN ?_ _) | (with_reducible assumption) | (with_reducible refine below_after (by with_reducible assumption) ?_) | go_size))⟩
theorem l08Det_any (a0 a1 a2 b0 b1 b2 c0 c1 c2 : Int) (w : World) (h : W3 100000 a0 a1 a2) (g : W3 100000 b0 b1 b2) (f : W3 100000 c0 c1 c2) :
    Calls Try.prog 29 #[.agg #[.int .i64 a0, .int .i64 a1, .int .i64 a2], .agg #[.int .i64 b0, .int .i64 b1, .int .i64 b2], .agg #[.int .i64 c0, .int .i64 c1, .int .i64 c2]] w fun e w' => e = .returned (.int .i64 (detV a0 a1 a2 b0 b1 b2 c0 c1 c2)) ∧ Below w.heap.size w w' := by
  have HWA := Lib.hid (h.up (k := 1000000) (by omega))
  have HWB := Lib.hid (g.up (k := 1000000) (by omega))
  have HWC := Lib.hid (f.up (k := 1000000) (by omega))
  have HCR : Hid (W3 100000000000 (crX b0 b1 b2 c0 c1 c2) (crY b0 b1 b2 c0 c1 c2) (crZ b0 b1 b2 c0 c1 c2)) := (g.cr f).up (by omega)
  clear h g f
  obtain ⟨GA, hG⟩ : ∃ G, w.heap.size = G := ⟨_, rfl⟩
  have HG := Lib.hid hG
  go_enter Try.func29, Try.ntmps29
  go_upto_region 1 with fail
  obtain ⟨w0, hw0⟩ : ∃ w0, w0 = (((w.alloc (.cells #[.int .i64 a0, .int .i64 a1, .int .i64 a2] 24)).alloc (.cells #[.int .i64 b0, .int .i64 b1, .int .i64 b2] 24)).alloc (.cells #[.int .i64 c0, .int .i64 c1, .int .i64 c2] 24)) := ⟨_, rfl⟩
  rw [← hw0]
  have HA : Hid (Bk3 w0 GA a0 a1 a2) := by
    have h := (bk3_new w a0 a1 a2 24).below (W' := (((w.alloc (.cells #[.int .i64 a0, .int .i64 a1, .int .i64 a2] 24)).alloc (.cells #[.int .i64 b0, .int .i64 b1, .int .i64 b2] 24)).alloc (.cells #[.int .i64 c0, .int .i64 c1, .int .i64 c2] 24))) (by (repeat' (first | (with_reducible exact Below.refl _ _) | (with_reducible refine Below.alloc ?_ ?_ _) | (with_reducible refine Below.setCell ?_ ?_ _) | (with_reducible refine Below.drew ?_) | (with_reducible refine below_drewN ?_ _) | (with_reducible assumption) | (with_reducible refine below_after (by with_reducible assumption) ?_) | go_size)))
    (try simp only [World.size_alloc] at h)
    rw [hG] at h
    rw [hw0]; exact h
  have HV : Hid (Bk3 w0 (GA + 1) b0 b1 b2) := by
    have h := (bk3_new (w.alloc (.cells #[.int .i64 a0, .int .i64 a1, .int .i64 a2] 24)) b0 b1 b2 24).below (W' := (((w.alloc (.cells #[.int .i64 a0, .int .i64 a1, .int .i64 a2] 24)).alloc (.cells #[.int .i64 b0, .int .i64 b1, .int .i64 b2] 24)).alloc (.cells #[.int .i64 c0, .int .i64 c1, .int .i64 c2] 24))) (by (repeat' (first | (with_reducible exact Below.refl _ _) | (with_reducible refine Below.alloc ?_ ?_ _) | (with_reducible refine Below.setCell ?_ ?_ _) | (with_reducible refine Below.drew ?_) | (with_reducible refine below_drewN ?_ _) | (with_reducible assumption) | (with_reducible refine below_after (by with_reducible assumption) ?_) | go_size)))
    (try simp only [World.size_alloc] at h)
    rw [hG] at h
    rw [hw0]; exact h
  have HC : Hid (Bk3 w0 (GA + 1 + 1) c0 c1 c2) := by
    have h := (bk3_new ((w.alloc (.cells #[.int .i64 a0, .int .i64 a1, .int .i64 a2] 24)).alloc (.cells #[.int .i64 b0, .int .i64 b1, .int .i64 b2] 24)) c0 c1 c2 24).below (W' := (((w.alloc (.cells #[.int .i64 a0, .int .i64 a1, .int .i64 a2] 24)).alloc (.cells #[.int .i64 b0, .int .i64 b1, .int .i64 b2] 24)).alloc (.cells #[.int .i64 c0, .int .i64 c1, .int .i64 c2] 24))) (by (repeat' (first | (with_reducible exact Below.refl _ _) | (with_reducible refine Below.alloc ?_ ?_ _) | (with_reducible refine Below.setCell ?_ ?_ _) | (with_reducible refine Below.drew ?_) | (with_reducible refine below_drewN ?_ _) | (with_reducible assumption) | (with_reducible refine below_after (by with_reducible assumption) ?_) | go_size)))
    (try simp only [World.size_alloc] at h)
    rw [hG] at h
    rw [hw0]; exact h
  have HB : Hid (Below w.heap.size w w0) := by show Below w.heap.size w w0; rw [hw0]; (repeat' (first | (with_reducible exact Below.refl _ _) | (with_reducible refine Below.alloc ?_ ?_ _) | (with_reducible refine Below.setCell ?_ ?_ _) | (with_reducible refine Below.drew ?_) | (with_reducible refine below_drewN ?_ _) | (with_reducible assumption) | (with_reducible refine below_after (by with_reducible assumption) ?_) | go_size))
  clear hw0
  obtain ⟨GC, hGC⟩ : ∃ g, GA + 1 + 1 = g := ⟨_, rfl⟩
  rw [hGC] at HC ⊢
  obtain ⟨GV, hGV⟩ : ∃ g, GA + 1 = g := ⟨_, rfl⟩
  rw [hGV] at HV ⊢
  have le_A : w.heap.size ≤ GA := by omega
  have le_V : w.heap.size ≤ GV := by omega
  have ne_V_A : GV ≠ GA := by omega
  have ne_A_V : GA ≠ GV := by omega
  have le_C : w.heap.size ≤ GC := by omega
  have ne_C_A : GC ≠ GA := by omega
  have ne_A_C : GA ≠ GC := by omega
  have ne_C_V : GC ≠ GV := by omega
  have ne_V_C : GV ≠ GC := by omega
  clear hGV hGC
  have HXX : Hid (∀ W, Below w0.heap.size w0 W → Bk3 W GA a0 a1 a2 ∧ Bk3 W GV b0 b1 b2 ∧ Bk3 W GC c0 c1 c2) := fun W hW => ⟨HA.out.below hW, HV.out.below hW, HC.out.below hW⟩
  go_wp2_with fail
  refine wp_region_held_drew (S := fun W => Below w0.heap.size w0 W) (by kernel_rfl) ?_ (fun hHeld => ?_); focus ((try dsimp only); exact (Below.refl _ _).drew)
  have HA := Lib.hid (HA.out.below (Below.drew (Below.refl _ _)))
  have HV := Lib.hid (HV.out.below (Below.drew (Below.refl _ _)))
  have HC := Lib.hid (HC.out.below (Below.drew (Below.refl _ _)))
  have hHeld : Below w0.heap.size w0 _ := hHeld
  obtain ⟨wD0, hwD0⟩ : ∃ wD, w0.drew = wD := ⟨_, rfl⟩
  rw [hwD0] at hHeld HA HV HC ⊢
  clear hwD0
  (refine wpAnyH_take (i := 0) (v := ?_) rfl (by kernel_rfl) (by kernel_rfl) (by kernel_rfl) (fun _ _ _ h => h) (Or.inl ⟨rfl, ?_⟩) (by assumption) ?_; rotate_left; focus (intro W hSw; (try dsimp only at hSw); have hxx := HXX.out _ hSw; obtain ⟨hxA, hxV, hxC⟩ := hxx; obtain ⟨⟨iA0, iA1, iA2⟩, _, _⟩ := hxA; obtain ⟨⟨iV0, iV1, iV2⟩, _, _⟩ := hxV; obtain ⟨⟨iC0, iC1, iC2⟩, _, _⟩ := hxC; go_simp; try (with_reducible rfl))); (try simp only [Act.put, List.getElem_toArray, List.getElem_cons_succ, List.getElem_cons_zero, List.setIfInBounds_toArray, List.set_cons_zero, List.set_cons_succ])
  (refine wpAnyH_take (i := 1) (v := ?_) rfl (by kernel_rfl) (by kernel_rfl) (by kernel_rfl) (fun _ _ _ h => h) (Or.inl ⟨rfl, ?_⟩) (by assumption) ?_; rotate_left; focus (intro W hSw; (try dsimp only at hSw); have hxx := HXX.out _ hSw; obtain ⟨hxA, hxV, hxC⟩ := hxx; obtain ⟨⟨iA0, iA1, iA2⟩, _, _⟩ := hxA; obtain ⟨⟨iV0, iV1, iV2⟩, _, _⟩ := hxV; obtain ⟨⟨iC0, iC1, iC2⟩, _, _⟩ := hxC; go_simp; try (with_reducible rfl))); (try simp only [Act.put, List.getElem_toArray, List.getElem_cons_succ, List.getElem_cons_zero, List.setIfInBounds_toArray, List.set_cons_zero, List.set_cons_succ])
  (refine wpAnyH_take (i := 2) (v := ?_) rfl (by kernel_rfl) (by kernel_rfl) (by kernel_rfl) (fun _ _ _ h => h) (Or.inl ⟨rfl, ?_⟩) (by assumption) ?_; rotate_left; focus (intro W hSw; (try dsimp only at hSw); have hxx := HXX.out _ hSw; obtain ⟨hxA, hxV, hxC⟩ := hxx; obtain ⟨⟨iA0, iA1, iA2⟩, _, _⟩ := hxA; obtain ⟨⟨iV0, iV1, iV2⟩, _, _⟩ := hxV; obtain ⟨⟨iC0, iC1, iC2⟩, _, _⟩ := hxC; go_simp; try (with_reducible rfl))); (try simp only [Act.put, List.getElem_toArray, List.getElem_cons_succ, List.getElem_cons_zero, List.setIfInBounds_toArray, List.set_cons_zero, List.set_cons_succ])
  refine wpAnyH_ready (rs := [3]) (by kernel_rfl) (by simp) ?_; refine AllReadyH.cons rfl (fun K hK => ?_) AllReadyH.nil
  go_simp; (go_at_call 32; refine (l08Cross_any b0 b1 b2 c0 c1 c2 _ HWB.out HWC.out).mono ?_; rintro en ywr0x0 ⟨rfl, hb2⟩); have HA := Lib.hid (HA.out.below hb2); have HV := Lib.hid (HV.out.below hb2); have HC := Lib.hid (HC.out.below hb2); refine hK.out _ _ (below_after hb2 hHeld) (fun hHeld2 => ?_); clear hb2; (clear hHeld; rename _ => hHeld; clear hK K; have hHeld : Below w0.heap.size w0 _ := hHeld); (try simp only [Act.put, List.getElem_toArray, List.getElem_cons_succ, List.getElem_cons_zero, List.setIfInBounds_toArray, List.set_cons_zero, List.set_cons_succ])
  refine wpAnyH_ready (rs := [4]) (by kernel_rfl) (by simp) ?_; refine AllReadyH.cons rfl (fun K hK => ?_) AllReadyH.nil
  go_simp; (go_at_call 31; refine (l08Dot_any _ _ _ _ _ _ _ HWA.out HCR.out).mono ?_; rintro en ywr0x1 ⟨rfl, hb2⟩); have HA := Lib.hid (HA.out.below hb2); have HV := Lib.hid (HV.out.below hb2); have HC := Lib.hid (HC.out.below hb2); refine hK.out _ _ (below_after hb2 hHeld) (fun hHeld2 => ?_); clear hb2; (clear hHeld; rename _ => hHeld; clear hK K; have hHeld : Below w0.heap.size w0 _ := hHeld); (try simp only [Act.put, List.getElem_toArray, List.getElem_cons_succ, List.getElem_cons_zero, List.setIfInBounds_toArray, List.set_cons_zero, List.set_cons_succ])
  (refine wpAnyH_take (i := 5) (v := ?_) rfl (by kernel_rfl) (by kernel_rfl) (by kernel_rfl) (fun _ _ _ h => h) (Or.inl ⟨rfl, ?_⟩) (by assumption) ?_; rotate_left; focus (intro W hSw; (try dsimp only at hSw); have hxx := HXX.out _ hSw; obtain ⟨hxA, hxV, hxC⟩ := hxx; obtain ⟨⟨iA0, iA1, iA2⟩, _, _⟩ := hxA; obtain ⟨⟨iV0, iV1, iV2⟩, _, _⟩ := hxV; obtain ⟨⟨iC0, iC1, iC2⟩, _, _⟩ := hxC; go_simp; try (with_reducible rfl))); (try simp only [Act.put, List.getElem_toArray, List.getElem_cons_succ, List.getElem_cons_zero, List.setIfInBounds_toArray, List.set_cons_zero, List.set_cons_succ])
  refine wpAnyH_done (by kernel_rfl) ?_ _
  have HB := Lib.hid (HB.out.trans (hHeld.mono HB.out.size))
  clear hHeld HXX
  obtain ⟨⟨qA0, qA1, qA2⟩, ⟨fA0, fA1, fA2⟩, zA⟩ := HA.out
  obtain ⟨⟨qV0, qV1, qV2⟩, ⟨fV0, fV1, fV2⟩, zV⟩ := HV.out
  obtain ⟨⟨qC0, qC1, qC2⟩, ⟨fC0, fC1, fC2⟩, zC⟩ := HC.out
  go_wp2_with fail
  refine bodyPost_ret (v := .int .i64 (dotV a0 a1 a2 (crX b0 b1 b2 c0 c1 c2) (crY b0 b1 b2 c0 c1 c2) (crZ b0 b1 b2 c0 c1 c2))) (by simp (maxDischargeDepth := 8) [results, Try.results29, go_sem, *]) rfl ?_
  have hb := HB.out
  exact ⟨rfl, by (repeat' (first | (with_reducible exact Below.refl _ _) | (with_reducible refine Below.alloc ?_ ?_ _) | (with_reducible refine Below.setCell ?_ ?_ _) | (with_reducible refine Below.drew ?_) | (with_reducible refine below_drewN ?_ _) | (with_reducible assumption) | (with_reducible refine below_after (by with_reducible assumption) ?_) | go_size))⟩
theorem l08Size_any (c0 c1 c2 c3 c4 c5 c6 c7 c8 : Int) (w : World) (h0 : W3 100000 c0 c1 c2) (h1 : W3 100000 c3 c4 c5) (h2 : W3 100000 c6 c7 c8) :
    Calls Try.prog 23 #[.agg #[.int .i64 c0, .int .i64 c1, .int .i64 c2, .int .i64 c3, .int .i64 c4, .int .i64 c5, .int .i64 c6, .int .i64 c7, .int .i64 c8]] w fun e w' => e = .returned (.int .i64 (absI (detV c0 c1 c2 c3 c4 c5 c6 c7 c8))) ∧ Below w.heap.size w w' := by
  have HD : Hid (Wi 1000000000000000000 (detV c0 c1 c2 c3 c4 c5 c6 c7 c8)) := (h0.det h1 h2).up (by omega)
  have HW0 := Lib.hid h0
  have HW1 := Lib.hid h1
  have HW2 := Lib.hid h2
  clear h0 h1 h2
  obtain ⟨GC, hG⟩ : ∃ G, w.heap.size = G := ⟨_, rfl⟩
  have HG := Lib.hid hG
  go_enter Try.func23, Try.ntmps23
  go_upto_region 1 with fail
  obtain ⟨w0, hw0⟩ : ∃ w0, w0 = (w.alloc (.cells #[.int .i64 c0, .int .i64 c1, .int .i64 c2, .int .i64 c3, .int .i64 c4, .int .i64 c5, .int .i64 c6, .int .i64 c7, .int .i64 c8] 30)) := ⟨_, rfl⟩
  rw [← hw0]
  have HC : Hid (Bk9 w0 GC c0 c1 c2 c3 c4 c5 c6 c7 c8) := by
    have h := (bk9_new w c0 c1 c2 c3 c4 c5 c6 c7 c8 30).below (W' := (w.alloc (.cells #[.int .i64 c0, .int .i64 c1, .int .i64 c2, .int .i64 c3, .int .i64 c4, .int .i64 c5, .int .i64 c6, .int .i64 c7, .int .i64 c8] 30))) (by (repeat' (first | (with_reducible exact Below.refl _ _) | (with_reducible refine Below.alloc ?_ ?_ _) | (with_reducible refine Below.setCell ?_ ?_ _) | (with_reducible refine Below.drew ?_) | (with_reducible refine below_drewN ?_ _) | (with_reducible assumption) | (with_reducible refine below_after (by with_reducible assumption) ?_) | go_size)))
    (try simp only [World.size_alloc] at h)
    rw [hG] at h
    rw [hw0]; exact h
  have HB : Hid (Below w.heap.size w w0) := by show Below w.heap.size w w0; rw [hw0]; (repeat' (first | (with_reducible exact Below.refl _ _) | (with_reducible refine Below.alloc ?_ ?_ _) | (with_reducible refine Below.setCell ?_ ?_ _) | (with_reducible refine Below.drew ?_) | (with_reducible refine below_drewN ?_ _) | (with_reducible assumption) | (with_reducible refine below_after (by with_reducible assumption) ?_) | go_size))
  clear hw0
  have le_C : w.heap.size ≤ GC := by omega
  obtain ⟨⟨qC0, qC1, qC2, qC3, qC4, qC5, qC6, qC7, qC8⟩, ⟨fC0, fC1, fC2, fC3, fC4, fC5, fC6, fC7, fC8⟩, zC⟩ := HC.out
  go_wp2_with fail
  go_at_call 29
  refine (l08Det_any _ _ _ _ _ _ _ _ _ _ HW0.out HW1.out HW2.out).mono ?_
  rintro e w1 ⟨rfl, hb⟩
  clear qC0 fC0 qC1 fC1 qC2 fC2 qC3 fC3 qC4 fC4 qC5 fC5 qC6 fC6 qC7 fC7 qC8 fC8 zC
  have HC := Lib.hid (HC.out.below hb)
  have HB := Lib.hid (below_after hb HB.out)
  clear hb
  have hd := HD.out
  unfold Wi at hd
  clear HD
  generalize hD : (detV c0 c1 c2 c3 c4 c5 c6 c7 c8) = D at *
  obtain ⟨⟨qC0, qC1, qC2, qC3, qC4, qC5, qC6, qC7, qC8⟩, ⟨fC0, fC1, fC2, fC3, fC4, fC5, fC6, fC7, fC8⟩, zC⟩ := HC.out
  go_wp2_with fail
  all_goals
    go_ret
    have hb := HB.out
    have hb2 := HB.out
    rw [hG] at hb2
    exact ⟨ret_int (by unfold absI; omega), by (repeat' (first | (with_reducible exact Below.refl _ _) | (with_reducible refine Below.alloc ?_ ?_ _) | (with_reducible refine Below.setCell ?_ ?_ _) | (with_reducible refine Below.drew ?_) | (with_reducible refine below_drewN ?_ _) | (with_reducible assumption) | (with_reducible refine below_after (by with_reducible assumption) ?_) | go_size))⟩
end Go.Proofs.Ytjjblgmokmalaaa
