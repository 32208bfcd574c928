/-
  The laws' helper that copies a square (own work).
-/
import Derived.Test.YtbgifgfegndlkaaTrX
import Derived.Test.YtbgifgfegndlkaaBkS
namespace Go.Proofs.Ytbgifgfegndlkaa
open Go.ChangeShapes Go.WideShapes Go.ChangeAt Go.RowKit
set_option linter.unusedVariables false
set_option linter.unusedSimpArgs false
set_option maxRecDepth 100000

theorem toInt64A3_any (a b c : Int) (w : World) : Calls Try.prog 74 #[.agg #[.int .i64 a, .int .i64 b, .int .i64 c]] w fun e w' => e = .returned (.agg #[.int .i64 a, .int .i64 b, .int .i64 c]) ∧ Below w.heap.size w w' := by
  have hs20 : w.heap.size < w.heap.size + 1 + 1 := (by omega); have hs30 : w.heap.size < w.heap.size + 1 + 1 + 1 := (by omega); have hs31 : w.heap.size + 1 < w.heap.size + 1 + 1 + 1 := (by omega)
  go_enter Try.func74, Try.ntmps74
  go_wp2
  refine wp_loop_rounds 4 ?_
  rw [rounds_succ]
  go_wp2
  rw [rounds_succ]
  go_wp2
  rw [rounds_succ]
  go_wp2
  rw [rounds_succ]
  go_wp2
  refine bodyPost_ret (v := .agg #[.int .i64 a, .int .i64 b, .int .i64 c]) (by simp (maxDischargeDepth := 8) [results, Try.results74, go_sem, *]) rfl ?_
  exact ⟨rfl, by (repeat' (first | (with_reducible exact Below.refl _ _) | (with_reducible refine Below.alloc ?_ ?_ _) | (with_reducible refine Below.setCell ?_ ?_ _) | (with_reducible refine Below.drew ?_) | (with_reducible refine below_drewN ?_ _) | (with_reducible assumption) | (with_reducible refine below_after (by with_reducible assumption) ?_) | go_size))⟩
set_option maxHeartbeats 6400000 in
theorem toSquare_any (m0 m1 m2 m3 m4 m5 m6 m7 m8 : Int) (w : World) : Calls Try.prog 39 #[.agg #[.int .i64 m0, .int .i64 m1, .int .i64 m2, .int .i64 m3, .int .i64 m4, .int .i64 m5, .int .i64 m6, .int .i64 m7, .int .i64 m8]] w fun e w' => e = .returned (.agg #[.int .i64 m0, .int .i64 m1, .int .i64 m2, .int .i64 m3, .int .i64 m4, .int .i64 m5, .int .i64 m6, .int .i64 m7, .int .i64 m8]) ∧ Below w.heap.size w w' := by
  obtain ⟨GM, hG⟩ : ∃ G, w.heap.size = G := ⟨_, rfl⟩
  have HG := Lib.hid hG
  go_enter Try.func39, Try.ntmps39
  go_upto_region 1 with fail
  obtain ⟨w0, hw0⟩ : ∃ w0, w0 = ((w.alloc (.cells #[.int .i64 m0, .int .i64 m1, .int .i64 m2, .int .i64 m3, .int .i64 m4, .int .i64 m5, .int .i64 m6, .int .i64 m7, .int .i64 m8] 42)).alloc (.cells #[.int .i64 0, .int .i64 0, .int .i64 0, .int .i64 0, .int .i64 0, .int .i64 0, .int .i64 0, .int .i64 0, .int .i64 0] 43)) := ⟨_, rfl⟩
  rw [← hw0]
  have HM : Hid (Bk9 w0 GM m0 m1 m2 m3 m4 m5 m6 m7 m8) := by
    have h := (bk9_new w m0 m1 m2 m3 m4 m5 m6 m7 m8 42).below (W' := ((w.alloc (.cells #[.int .i64 m0, .int .i64 m1, .int .i64 m2, .int .i64 m3, .int .i64 m4, .int .i64 m5, .int .i64 m6, .int .i64 m7, .int .i64 m8] 42)).alloc (.cells #[.int .i64 0, .int .i64 0, .int .i64 0, .int .i64 0, .int .i64 0, .int .i64 0, .int .i64 0, .int .i64 0, .int .i64 0] 43))) (by (repeat' (first | (with_reducible exact Below.refl _ _) | (with_reducible refine Below.alloc ?_ ?_ _) | (with_reducible refine Below.setCell ?_ ?_ _) | (with_reducible refine Below.drew ?_) | (with_reducible refine below_drewN ?_ _) | (with_reducible assumption) | (with_reducible refine below_after (by with_reducible assumption) ?_) | go_size)))
    (try simp only [World.size_alloc] at h)
    rw [hG] at h
    rw [hw0]; exact h
  have HR : Hid (Bk9 w0 (GM + 1) 0 0 0 0 0 0 0 0 0) := by
    have h := (bk9_new (w.alloc (.cells #[.int .i64 m0, .int .i64 m1, .int .i64 m2, .int .i64 m3, .int .i64 m4, .int .i64 m5, .int .i64 m6, .int .i64 m7, .int .i64 m8] 42)) 0 0 0 0 0 0 0 0 0 43).below (W' := ((w.alloc (.cells #[.int .i64 m0, .int .i64 m1, .int .i64 m2, .int .i64 m3, .int .i64 m4, .int .i64 m5, .int .i64 m6, .int .i64 m7, .int .i64 m8] 42)).alloc (.cells #[.int .i64 0, .int .i64 0, .int .i64 0, .int .i64 0, .int .i64 0, .int .i64 0, .int .i64 0, .int .i64 0, .int .i64 0] 43))) (by (repeat' (first | (with_reducible exact Below.refl _ _) | (with_reducible refine Below.alloc ?_ ?_ _) | (with_reducible refine Below.setCell ?_ ?_ _) | (with_reducible refine Below.drew ?_) | (with_reducible refine below_drewN ?_ _) | (with_reducible assumption) | (with_reducible refine below_after (by with_reducible assumption) ?_) | go_size)))
    (try simp only [World.size_alloc] at h)
    rw [hG] at h
    rw [hw0]; exact h
  have HB : Hid (Below w.heap.size w w0) := by show Below w.heap.size w w0; rw [hw0]; (repeat' (first | (with_reducible exact Below.refl _ _) | (with_reducible refine Below.alloc ?_ ?_ _) | (with_reducible refine Below.setCell ?_ ?_ _) | (with_reducible refine Below.drew ?_) | (with_reducible refine below_drewN ?_ _) | (with_reducible assumption) | (with_reducible refine below_after (by with_reducible assumption) ?_) | go_size))
  clear hw0
  obtain ⟨GR, hGR⟩ : ∃ g, GM + 1 = g := ⟨_, rfl⟩
  rw [hGR] at HR ⊢
  have le_M : w.heap.size ≤ GM := by omega
  have le_R : w.heap.size ≤ GR := by omega
  have ne_R_M : GR ≠ GM := by omega
  have ne_M_R : GM ≠ GR := by omega
  clear hGR
  obtain ⟨⟨qM0, qM1, qM2, qM3, qM4, qM5, qM6, qM7, qM8⟩, ⟨fM0, fM1, fM2, fM3, fM4, fM5, fM6, fM7, fM8⟩, zM⟩ := HM.out
  obtain ⟨⟨qR0, qR1, qR2, qR3, qR4, qR5, qR6, qR7, qR8⟩, ⟨fR0, fR1, fR2, fR3, fR4, fR5, fR6, fR7, fR8⟩, zR⟩ := HR.out
  go_upto_region 2 with fail
  obtain ⟨GQ, hGQ⟩ : ∃ g, w0.heap.size = g := ⟨_, rfl⟩
  obtain ⟨w1, hw1⟩ : ∃ wx, wx = w0.alloc (.cells #[.int .i64 0, .int .i64 0, .int .i64 0, .int .i64 0, .int .i64 0, .int .i64 0, .int .i64 0, .int .i64 0, .int .i64 0] 43) := ⟨_, rfl⟩
  rw [← hw1, hGQ]
  have HQ : Hid (Bk9 w1 GQ 0 0 0 0 0 0 0 0 0) := by rw [hw1, ← hGQ]; exact bk9_new w0 0 0 0 0 0 0 0 0 0 _
  have le_Q : w.heap.size ≤ GQ := by rw [← hGQ]; exact HB.out.size
  have ne_Q_M : GQ ≠ GM := by have := HM.out.2.2; omega
  have ne_M_Q : GM ≠ GQ := Ne.symm ne_Q_M
  have ne_Q_R : GQ ≠ GR := by have := HR.out.2.2; omega
  have ne_R_Q : GR ≠ GQ := Ne.symm ne_Q_R
  clear qM0 fM0 qM1 fM1 qM2 fM2 qM3 fM3 qM4 fM4 qM5 fM5 qM6 fM6 qM7 fM7 qM8 fM8 zM qR0 fR0 qR1 fR1 qR2 fR2 qR3 fR3 qR4 fR4 qR5 fR5 qR6 fR6 qR7 fR7 qR8 fR8 zR
  have HM := Lib.hid (HM.out.below ((Below.refl _ _).alloc (Nat.le_refl _) (.cells #[.int .i64 0, .int .i64 0, .int .i64 0, .int .i64 0, .int .i64 0, .int .i64 0, .int .i64 0, .int .i64 0, .int .i64 0] 43)))
  have HR := Lib.hid (HR.out.below ((Below.refl _ _).alloc (Nat.le_refl _) (.cells #[.int .i64 0, .int .i64 0, .int .i64 0, .int .i64 0, .int .i64 0, .int .i64 0, .int .i64 0, .int .i64 0, .int .i64 0] 43)))
  have HB := Lib.hid (Below.alloc HB.out HB.out.size (.cells #[.int .i64 0, .int .i64 0, .int .i64 0, .int .i64 0, .int .i64 0, .int .i64 0, .int .i64 0, .int .i64 0, .int .i64 0] 43))
  rw [← hw1] at HM HR HB
  clear hw1 hGQ
  obtain ⟨⟨qM0, qM1, qM2, qM3, qM4, qM5, qM6, qM7, qM8⟩, ⟨fM0, fM1, fM2, fM3, fM4, fM5, fM6, fM7, fM8⟩, zM⟩ := HM.out
  obtain ⟨⟨qR0, qR1, qR2, qR3, qR4, qR5, qR6, qR7, qR8⟩, ⟨fR0, fR1, fR2, fR3, fR4, fR5, fR6, fR7, fR8⟩, zR⟩ := HR.out
  obtain ⟨⟨qQ0, qQ1, qQ2, qQ3, qQ4, qQ5, qQ6, qQ7, qQ8⟩, ⟨fQ0, fQ1, fQ2, fQ3, fQ4, fQ5, fQ6, fQ7, fQ8⟩, zQ⟩ := HQ.out
  go_wp2_with fail
  clear qM0 fM0 qM1 fM1 qM2 fM2 qM3 fM3 qM4 fM4 qM5 fM5 qM6 fM6 qM7 fM7 qM8 fM8 zM qR0 fR0 qR1 fR1 qR2 fR2 qR3 fR3 qR4 fR4 qR5 fR5 qR6 fR6 qR7 fR7 qR8 fR8 zR qQ0 fQ0 qQ1 fQ1 qQ2 fQ2 qQ3 fQ3 qQ4 fQ4 qQ5 fQ5 qQ6 fQ6 qQ7 fQ7 qQ8 fQ8 zQ
  refine wp_loop_rounds 4 ?_
  rw [rounds_succ]
  obtain ⟨⟨qM0, qM1, qM2, qM3, qM4, qM5, qM6, qM7, qM8⟩, ⟨fM0, fM1, fM2, fM3, fM4, fM5, fM6, fM7, fM8⟩, zM⟩ := HM.out
  obtain ⟨⟨qR0, qR1, qR2, qR3, qR4, qR5, qR6, qR7, qR8⟩, ⟨fR0, fR1, fR2, fR3, fR4, fR5, fR6, fR7, fR8⟩, zR⟩ := HR.out
  obtain ⟨⟨qQ0, qQ1, qQ2, qQ3, qQ4, qQ5, qQ6, qQ7, qQ8⟩, ⟨fQ0, fQ1, fQ2, fQ3, fQ4, fQ5, fQ6, fQ7, fQ8⟩, zQ⟩ := HQ.out
  go_wp2_with fail
  go_at_call 74
  refine (toInt64A3_any m0 m1 m2 _).mono ?_
  rintro e w2 ⟨rfl, hb⟩
  clear qM0 fM0 qM1 fM1 qM2 fM2 qM3 fM3 qM4 fM4 qM5 fM5 qM6 fM6 qM7 fM7 qM8 fM8 zM qR0 fR0 qR1 fR1 qR2 fR2 qR3 fR3 qR4 fR4 qR5 fR5 qR6 fR6 qR7 fR7 qR8 fR8 zR qQ0 fQ0 qQ1 fQ1 qQ2 fQ2 qQ3 fQ3 qQ4 fQ4 qQ5 fQ5 qQ6 fQ6 qQ7 fQ7 qQ8 fQ8 zQ
  have HM := Lib.hid (HM.out.below hb)
  have HR := Lib.hid (HR.out.below hb)
  have HQ := Lib.hid (HQ.out.below hb)
  have HB := Lib.hid (below_after hb HB.out)
  clear hb
  obtain ⟨⟨qM0, qM1, qM2, qM3, qM4, qM5, qM6, qM7, qM8⟩, ⟨fM0, fM1, fM2, fM3, fM4, fM5, fM6, fM7, fM8⟩, zM⟩ := HM.out
  obtain ⟨⟨qR0, qR1, qR2, qR3, qR4, qR5, qR6, qR7, qR8⟩, ⟨fR0, fR1, fR2, fR3, fR4, fR5, fR6, fR7, fR8⟩, zR⟩ := HR.out
  obtain ⟨⟨qQ0, qQ1, qQ2, qQ3, qQ4, qQ5, qQ6, qQ7, qQ8⟩, ⟨fQ0, fQ1, fQ2, fQ3, fQ4, fQ5, fQ6, fQ7, fQ8⟩, zQ⟩ := HQ.out
  go_upto_region 4 with fail
  obtain ⟨w3, hw3⟩ : ∃ wx, wx = (((w2.setCell ⟨GQ, 0, none⟩ (.int .i64 m0)).setCell ⟨GQ, 1, none⟩ (.int .i64 m1)).setCell ⟨GQ, 2, none⟩ (.int .i64 m2)) := ⟨_, rfl⟩
  rw [← hw3]
  clear qM0 fM0 qM1 fM1 qM2 fM2 qM3 fM3 qM4 fM4 qM5 fM5 qM6 fM6 qM7 fM7 qM8 fM8 zM qR0 fR0 qR1 fR1 qR2 fR2 qR3 fR3 qR4 fR4 qR5 fR5 qR6 fR6 qR7 fR7 qR8 fR8 zR qQ0 fQ0 qQ1 fQ1 qQ2 fQ2 qQ3 fQ3 qQ4 fQ4 qQ5 fQ5 qQ6 fQ6 qQ7 fQ7 qQ8 fQ8 zQ
  have HM := Lib.hid (((HM.out.far ⟨GQ, 0, none⟩ (.int .i64 m0) (by show GM ≠ GQ; exact ne_M_Q)).far ⟨GQ, 1, none⟩ (.int .i64 m1) (by show GM ≠ GQ; exact ne_M_Q)).far ⟨GQ, 2, none⟩ (.int .i64 m2) (by show GM ≠ GQ; exact ne_M_Q))
  have HR := Lib.hid (((HR.out.far ⟨GQ, 0, none⟩ (.int .i64 m0) (by show GR ≠ GQ; exact ne_R_Q)).far ⟨GQ, 1, none⟩ (.int .i64 m1) (by show GR ≠ GQ; exact ne_R_Q)).far ⟨GQ, 2, none⟩ (.int .i64 m2) (by show GR ≠ GQ; exact ne_R_Q))
  have HQ := Lib.hid (((HQ.out.set0 m0).set1 m1).set2 m2)
  have HB := Lib.hid (Below.setCell (Below.setCell (Below.setCell HB.out (p := ⟨GQ, 0, none⟩) le_Q (.int .i64 m0)) (p := ⟨GQ, 1, none⟩) le_Q (.int .i64 m1)) (p := ⟨GQ, 2, none⟩) le_Q (.int .i64 m2))
  rw [← hw3] at HM HR HQ HB
  clear hw3
  obtain ⟨⟨qM0, qM1, qM2, qM3, qM4, qM5, qM6, qM7, qM8⟩, ⟨fM0, fM1, fM2, fM3, fM4, fM5, fM6, fM7, fM8⟩, zM⟩ := HM.out
  obtain ⟨⟨qR0, qR1, qR2, qR3, qR4, qR5, qR6, qR7, qR8⟩, ⟨fR0, fR1, fR2, fR3, fR4, fR5, fR6, fR7, fR8⟩, zR⟩ := HR.out
  obtain ⟨⟨qQ0, qQ1, qQ2, qQ3, qQ4, qQ5, qQ6, qQ7, qQ8⟩, ⟨fQ0, fQ1, fQ2, fQ3, fQ4, fQ5, fQ6, fQ7, fQ8⟩, zQ⟩ := HQ.out
  go_wp2_with fail
  clear qM0 fM0 qM1 fM1 qM2 fM2 qM3 fM3 qM4 fM4 qM5 fM5 qM6 fM6 qM7 fM7 qM8 fM8 zM qR0 fR0 qR1 fR1 qR2 fR2 qR3 fR3 qR4 fR4 qR5 fR5 qR6 fR6 qR7 fR7 qR8 fR8 zR qQ0 fQ0 qQ1 fQ1 qQ2 fQ2 qQ3 fQ3 qQ4 fQ4 qQ5 fQ5 qQ6 fQ6 qQ7 fQ7 qQ8 fQ8 zQ
  rw [rounds_succ]
  obtain ⟨⟨qM0, qM1, qM2, qM3, qM4, qM5, qM6, qM7, qM8⟩, ⟨fM0, fM1, fM2, fM3, fM4, fM5, fM6, fM7, fM8⟩, zM⟩ := HM.out
  obtain ⟨⟨qR0, qR1, qR2, qR3, qR4, qR5, qR6, qR7, qR8⟩, ⟨fR0, fR1, fR2, fR3, fR4, fR5, fR6, fR7, fR8⟩, zR⟩ := HR.out
  obtain ⟨⟨qQ0, qQ1, qQ2, qQ3, qQ4, qQ5, qQ6, qQ7, qQ8⟩, ⟨fQ0, fQ1, fQ2, fQ3, fQ4, fQ5, fQ6, fQ7, fQ8⟩, zQ⟩ := HQ.out
  go_wp2_with fail
  go_at_call 74
  refine (toInt64A3_any m3 m4 m5 _).mono ?_
  rintro e w4 ⟨rfl, hb⟩
  clear qM0 fM0 qM1 fM1 qM2 fM2 qM3 fM3 qM4 fM4 qM5 fM5 qM6 fM6 qM7 fM7 qM8 fM8 zM qR0 fR0 qR1 fR1 qR2 fR2 qR3 fR3 qR4 fR4 qR5 fR5 qR6 fR6 qR7 fR7 qR8 fR8 zR qQ0 fQ0 qQ1 fQ1 qQ2 fQ2 qQ3 fQ3 qQ4 fQ4 qQ5 fQ5 qQ6 fQ6 qQ7 fQ7 qQ8 fQ8 zQ
  have HM := Lib.hid (HM.out.below hb)
  have HR := Lib.hid (HR.out.below hb)
  have HQ := Lib.hid (HQ.out.below hb)
  have HB := Lib.hid (below_after hb HB.out)
  clear hb
  obtain ⟨⟨qM0, qM1, qM2, qM3, qM4, qM5, qM6, qM7, qM8⟩, ⟨fM0, fM1, fM2, fM3, fM4, fM5, fM6, fM7, fM8⟩, zM⟩ := HM.out
  obtain ⟨⟨qR0, qR1, qR2, qR3, qR4, qR5, qR6, qR7, qR8⟩, ⟨fR0, fR1, fR2, fR3, fR4, fR5, fR6, fR7, fR8⟩, zR⟩ := HR.out
  obtain ⟨⟨qQ0, qQ1, qQ2, qQ3, qQ4, qQ5, qQ6, qQ7, qQ8⟩, ⟨fQ0, fQ1, fQ2, fQ3, fQ4, fQ5, fQ6, fQ7, fQ8⟩, zQ⟩ := HQ.out
  go_upto_region 4 with fail
  obtain ⟨w5, hw5⟩ : ∃ wx, wx = (((w4.setCell ⟨GQ, 3, none⟩ (.int .i64 m3)).setCell ⟨GQ, 4, none⟩ (.int .i64 m4)).setCell ⟨GQ, 5, none⟩ (.int .i64 m5)) := ⟨_, rfl⟩
  rw [← hw5]
  clear qM0 fM0 qM1 fM1 qM2 fM2 qM3 fM3 qM4 fM4 qM5 fM5 qM6 fM6 qM7 fM7 qM8 fM8 zM qR0 fR0 qR1 fR1 qR2 fR2 qR3 fR3 qR4 fR4 qR5 fR5 qR6 fR6 qR7 fR7 qR8 fR8 zR qQ0 fQ0 qQ1 fQ1 qQ2 fQ2 qQ3 fQ3 qQ4 fQ4 qQ5 fQ5 qQ6 fQ6 qQ7 fQ7 qQ8 fQ8 zQ
  have HM := Lib.hid (((HM.out.far ⟨GQ, 3, none⟩ (.int .i64 m3) (by show GM ≠ GQ; exact ne_M_Q)).far ⟨GQ, 4, none⟩ (.int .i64 m4) (by show GM ≠ GQ; exact ne_M_Q)).far ⟨GQ, 5, none⟩ (.int .i64 m5) (by show GM ≠ GQ; exact ne_M_Q))
  have HR := Lib.hid (((HR.out.far ⟨GQ, 3, none⟩ (.int .i64 m3) (by show GR ≠ GQ; exact ne_R_Q)).far ⟨GQ, 4, none⟩ (.int .i64 m4) (by show GR ≠ GQ; exact ne_R_Q)).far ⟨GQ, 5, none⟩ (.int .i64 m5) (by show GR ≠ GQ; exact ne_R_Q))
  have HQ := Lib.hid (((HQ.out.set3 m3).set4 m4).set5 m5)
  have HB := Lib.hid (Below.setCell (Below.setCell (Below.setCell HB.out (p := ⟨GQ, 3, none⟩) le_Q (.int .i64 m3)) (p := ⟨GQ, 4, none⟩) le_Q (.int .i64 m4)) (p := ⟨GQ, 5, none⟩) le_Q (.int .i64 m5))
  rw [← hw5] at HM HR HQ HB
  clear hw5
  obtain ⟨⟨qM0, qM1, qM2, qM3, qM4, qM5, qM6, qM7, qM8⟩, ⟨fM0, fM1, fM2, fM3, fM4, fM5, fM6, fM7, fM8⟩, zM⟩ := HM.out
  obtain ⟨⟨qR0, qR1, qR2, qR3, qR4, qR5, qR6, qR7, qR8⟩, ⟨fR0, fR1, fR2, fR3, fR4, fR5, fR6, fR7, fR8⟩, zR⟩ := HR.out
  obtain ⟨⟨qQ0, qQ1, qQ2, qQ3, qQ4, qQ5, qQ6, qQ7, qQ8⟩, ⟨fQ0, fQ1, fQ2, fQ3, fQ4, fQ5, fQ6, fQ7, fQ8⟩, zQ⟩ := HQ.out
  go_wp2_with fail
  clear qM0 fM0 qM1 fM1 qM2 fM2 qM3 fM3 qM4 fM4 qM5 fM5 qM6 fM6 qM7 fM7 qM8 fM8 zM qR0 fR0 qR1 fR1 qR2 fR2 qR3 fR3 qR4 fR4 qR5 fR5 qR6 fR6 qR7 fR7 qR8 fR8 zR qQ0 fQ0 qQ1 fQ1 qQ2 fQ2 qQ3 fQ3 qQ4 fQ4 qQ5 fQ5 qQ6 fQ6 qQ7 fQ7 qQ8 fQ8 zQ
  rw [rounds_succ]
  obtain ⟨⟨qM0, qM1, qM2, qM3, qM4, qM5, qM6, qM7, qM8⟩, ⟨fM0, fM1, fM2, fM3, fM4, fM5, fM6, fM7, fM8⟩, zM⟩ := HM.out
  obtain ⟨⟨qR0, qR1, qR2, qR3, qR4, qR5, qR6, qR7, qR8⟩, ⟨fR0, fR1, fR2, fR3, fR4, fR5, fR6, fR7, fR8⟩, zR⟩ := HR.out
  obtain ⟨⟨qQ0, qQ1, qQ2, qQ3, qQ4, qQ5, qQ6, qQ7, qQ8⟩, ⟨fQ0, fQ1, fQ2, fQ3, fQ4, fQ5, fQ6, fQ7, fQ8⟩, zQ⟩ := HQ.out
  go_wp2_with fail
  go_at_call 74
  refine (toInt64A3_any m6 m7 m8 _).mono ?_
  rintro e w6 ⟨rfl, hb⟩
  clear qM0 fM0 qM1 fM1 qM2 fM2 qM3 fM3 qM4 fM4 qM5 fM5 qM6 fM6 qM7 fM7 qM8 fM8 zM qR0 fR0 qR1 fR1 qR2 fR2 qR3 fR3 qR4 fR4 qR5 fR5 qR6 fR6 qR7 fR7 qR8 fR8 zR qQ0 fQ0 qQ1 fQ1 qQ2 fQ2 qQ3 fQ3 qQ4 fQ4 qQ5 fQ5 qQ6 fQ6 qQ7 fQ7 qQ8 fQ8 zQ
  have HM := Lib.hid (HM.out.below hb)
  have HR := Lib.hid (HR.out.below hb)
  have HQ := Lib.hid (HQ.out.below hb)
  have HB := Lib.hid (below_after hb HB.out)
  clear hb
  obtain ⟨⟨qM0, qM1, qM2, qM3, qM4, qM5, qM6, qM7, qM8⟩, ⟨fM0, fM1, fM2, fM3, fM4, fM5, fM6, fM7, fM8⟩, zM⟩ := HM.out
  obtain ⟨⟨qR0, qR1, qR2, qR3, qR4, qR5, qR6, qR7, qR8⟩, ⟨fR0, fR1, fR2, fR3, fR4, fR5, fR6, fR7, fR8⟩, zR⟩ := HR.out
  obtain ⟨⟨qQ0, qQ1, qQ2, qQ3, qQ4, qQ5, qQ6, qQ7, qQ8⟩, ⟨fQ0, fQ1, fQ2, fQ3, fQ4, fQ5, fQ6, fQ7, fQ8⟩, zQ⟩ := HQ.out
  go_upto_region 4 with fail
  obtain ⟨w7, hw7⟩ : ∃ wx, wx = (((w6.setCell ⟨GQ, 6, none⟩ (.int .i64 m6)).setCell ⟨GQ, 7, none⟩ (.int .i64 m7)).setCell ⟨GQ, 8, none⟩ (.int .i64 m8)) := ⟨_, rfl⟩
  rw [← hw7]
  clear qM0 fM0 qM1 fM1 qM2 fM2 qM3 fM3 qM4 fM4 qM5 fM5 qM6 fM6 qM7 fM7 qM8 fM8 zM qR0 fR0 qR1 fR1 qR2 fR2 qR3 fR3 qR4 fR4 qR5 fR5 qR6 fR6 qR7 fR7 qR8 fR8 zR qQ0 fQ0 qQ1 fQ1 qQ2 fQ2 qQ3 fQ3 qQ4 fQ4 qQ5 fQ5 qQ6 fQ6 qQ7 fQ7 qQ8 fQ8 zQ
  have HM := Lib.hid (((HM.out.far ⟨GQ, 6, none⟩ (.int .i64 m6) (by show GM ≠ GQ; exact ne_M_Q)).far ⟨GQ, 7, none⟩ (.int .i64 m7) (by show GM ≠ GQ; exact ne_M_Q)).far ⟨GQ, 8, none⟩ (.int .i64 m8) (by show GM ≠ GQ; exact ne_M_Q))
  have HR := Lib.hid (((HR.out.far ⟨GQ, 6, none⟩ (.int .i64 m6) (by show GR ≠ GQ; exact ne_R_Q)).far ⟨GQ, 7, none⟩ (.int .i64 m7) (by show GR ≠ GQ; exact ne_R_Q)).far ⟨GQ, 8, none⟩ (.int .i64 m8) (by show GR ≠ GQ; exact ne_R_Q))
  have HQ := Lib.hid (((HQ.out.set6 m6).set7 m7).set8 m8)
  have HB := Lib.hid (Below.setCell (Below.setCell (Below.setCell HB.out (p := ⟨GQ, 6, none⟩) le_Q (.int .i64 m6)) (p := ⟨GQ, 7, none⟩) le_Q (.int .i64 m7)) (p := ⟨GQ, 8, none⟩) le_Q (.int .i64 m8))
  rw [← hw7] at HM HR HQ HB
  clear hw7
  obtain ⟨⟨qM0, qM1, qM2, qM3, qM4, qM5, qM6, qM7, qM8⟩, ⟨fM0, fM1, fM2, fM3, fM4, fM5, fM6, fM7, fM8⟩, zM⟩ := HM.out
  obtain ⟨⟨qR0, qR1, qR2, qR3, qR4, qR5, qR6, qR7, qR8⟩, ⟨fR0, fR1, fR2, fR3, fR4, fR5, fR6, fR7, fR8⟩, zR⟩ := HR.out
  obtain ⟨⟨qQ0, qQ1, qQ2, qQ3, qQ4, qQ5, qQ6, qQ7, qQ8⟩, ⟨fQ0, fQ1, fQ2, fQ3, fQ4, fQ5, fQ6, fQ7, fQ8⟩, zQ⟩ := HQ.out
  go_wp2_with fail
  clear qM0 fM0 qM1 fM1 qM2 fM2 qM3 fM3 qM4 fM4 qM5 fM5 qM6 fM6 qM7 fM7 qM8 fM8 zM qR0 fR0 qR1 fR1 qR2 fR2 qR3 fR3 qR4 fR4 qR5 fR5 qR6 fR6 qR7 fR7 qR8 fR8 zR qQ0 fQ0 qQ1 fQ1 qQ2 fQ2 qQ3 fQ3 qQ4 fQ4 qQ5 fQ5 qQ6 fQ6 qQ7 fQ7 qQ8 fQ8 zQ
  rw [rounds_succ]
  obtain ⟨⟨qM0, qM1, qM2, qM3, qM4, qM5, qM6, qM7, qM8⟩, ⟨fM0, fM1, fM2, fM3, fM4, fM5, fM6, fM7, fM8⟩, zM⟩ := HM.out
  obtain ⟨⟨qR0, qR1, qR2, qR3, qR4, qR5, qR6, qR7, qR8⟩, ⟨fR0, fR1, fR2, fR3, fR4, fR5, fR6, fR7, fR8⟩, zR⟩ := HR.out
  obtain ⟨⟨qQ0, qQ1, qQ2, qQ3, qQ4, qQ5, qQ6, qQ7, qQ8⟩, ⟨fQ0, fQ1, fQ2, fQ3, fQ4, fQ5, fQ6, fQ7, fQ8⟩, zQ⟩ := HQ.out
  go_wp2_with fail
  refine bodyPost_ret (v := .agg #[.int .i64 m0, .int .i64 m1, .int .i64 m2, .int .i64 m3, .int .i64 m4, .int .i64 m5, .int .i64 m6, .int .i64 m7, .int .i64 m8]) (by simp (maxDischargeDepth := 8) [results, Try.results39, go_sem, *]) rfl ?_
  have hb := HB.out
  exact ⟨rfl, by (repeat' (first | (with_reducible exact Below.refl _ _) | (with_reducible refine Below.alloc ?_ ?_ _) | (with_reducible refine Below.setCell ?_ ?_ _) | (with_reducible refine Below.drew ?_) | (with_reducible refine below_drewN ?_ _) | (with_reducible assumption) | (with_reducible refine below_after (by with_reducible assumption) ?_) | go_size))⟩
end Go.Proofs.Ytbgifgfegndlkaa
