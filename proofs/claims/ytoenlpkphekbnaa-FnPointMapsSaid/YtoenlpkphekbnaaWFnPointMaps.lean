/-
  The walk of laws.FnPointMaps: for all arguments it returns true and leaves memory as it was. No conditions (own work).
-/
import Derived.Test.YtoenlpkphekbnaaBig
import Derived.Test.YtoenlpkphekbnaaBth
import Derived.Test.YtoenlpkphekbnaaPmM
import Derived.Test.YtoenlpkphekbnaaPmD
import Derived.Test.YtoenlpkphekbnaaDrw7
import Derived.Test.YtoenlpkphekbnaaEqM
import Derived.Deep.DeepCutAuto
import Derived.Deep.Cut
namespace Go.Proofs.Ytoenlpkphekbnaa
open Go.ChangeShapes Go.WideShapes Go.ChangeAt Go.RowKit
set_option linter.unusedVariables false
set_option maxRecDepth 100000
set_option linter.unusedSimpArgs false
set_option maxRecDepth 100000

theorem spec_IsMatrix_anyP (a b c d : Int) (w : World) : Calls Try.prog 14 #[.agg #[.int .i64 a, .int .i64 b, .int .i64 c, .int .i64 d]] w fun e w' => e = .returned (.bool (isMx a b c d)) ∧ Below w.heap.size w w' := by
  go_enter Try.func14, Try.ntmps14
  go_wp2_with (go_at_call 75; refine (l01Matrix_any _ _ _ _ _).mono ?_; rintro e wn ⟨rfl, hb⟩; first | (have h2 := after_call2 hb hcl hfr hlt (by ((repeat' (first | (with_reducible exact Below.refl _ _) | (with_reducible refine Below.alloc ?_ ?_ _) | (with_reducible refine Below.setCell ?_ ?_ _) | (with_reducible refine Below.drew ?_) | (with_reducible refine below_drewN ?_ _) | (with_reducible assumption) | (with_reducible refine below_after (by with_reducible assumption) ?_) | go_size)); done)); obtain ⟨hclx, hfrx, hltx, hsz⟩ := after_call hb; (try simp only [World.size_alloc, World.size_setCell, World.size_drew] at hclx hfrx hltx hsz); (try (have hszl := Nat.lt_of_succ_le hsz)); obtain ⟨hcl, hfr, hlt⟩ := h2) | (obtain ⟨hcl, hfr, hlt, hsz⟩ := after_call hb; (try simp only [World.size_alloc, World.size_setCell, World.size_drew] at hcl hfr hlt hsz)))
  go_ret
  exact ⟨rfl, by (repeat' (first | (with_reducible exact Below.refl _ _) | (with_reducible refine Below.alloc ?_ ?_ _) | (with_reducible refine Below.setCell ?_ ?_ _) | (with_reducible refine Below.drew ?_) | (with_reducible refine below_drewN ?_ _) | (with_reducible assumption) | (with_reducible refine below_after (by with_reducible assumption) ?_) | go_size))⟩
set_option maxHeartbeats 16000000 in
theorem walkFnPointMaps (a : Option Addr) (n cap : Nat) (zs : List Int) (w : World) (hR : IsRow .u8 w a n cap zs) :
    Calls Try.prog 3 #[.slice a n cap] w fun e w' => e = .returned (.bool true) ∧ Below w.heap.size w w' := by
  have heq := eq_mx
  have heqp := eq_pt
  have hn := row_len hR
  have hby := byt_of_row hR
  have CB := Lib.hid (fun w => big_any a n cap w hn)
  by_cases hbig : (4096 : Int) < (n : Int)
  · clear hR hby
    have d1 : decide ((4096 : Int) < (n : Int)) = true := by simpa using hbig
    rw [d1] at CB
    go_enter Try.func3, Try.ntmps3
    go_wp2_with (first | (go_at_call 6; refine (CB.out _).mono ?_; rintro e wn ⟨rfl, hb⟩; first | (have h2 := after_call2 hb hcl hfr hlt (by ((repeat' (first | (with_reducible exact Below.refl _ _) | (with_reducible refine Below.alloc ?_ ?_ _) | (with_reducible refine Below.setCell ?_ ?_ _) | (with_reducible refine Below.drew ?_) | (with_reducible refine below_drewN ?_ _) | (with_reducible assumption) | (with_reducible refine below_after (by with_reducible assumption) ?_) | go_size)); done)); obtain ⟨hclx, hfrx, hltx, hsz⟩ := after_call hb; (try simp only [World.size_alloc, World.size_setCell, World.size_drew] at hclx hfrx hltx hsz); (try (have hszl := Nat.lt_of_succ_le hsz)); obtain ⟨hcl, hfr, hlt⟩ := h2) | (obtain ⟨hcl, hfr, hlt, hsz⟩ := after_call hb; (try simp only [World.size_alloc, World.size_setCell, World.size_drew] at hcl hfr hlt hsz))))
    go_ret
    exact ⟨rfl, by (repeat' (first | (with_reducible exact Below.refl _ _) | (with_reducible refine Below.alloc ?_ ?_ _) | (with_reducible refine Below.setCell ?_ ?_ _) | (with_reducible refine Below.drew ?_) | (with_reducible refine below_drewN ?_ _) | (with_reducible assumption) | (with_reducible refine below_after (by with_reducible assumption) ?_) | go_size))⟩
  · have d1 : decide ((4096 : Int) < (n : Int)) = false := by simpa using hbig
    rw [d1] at CB
    have CD0 := Lib.hid (fun W (hW : Below w.heap.size w W) => DrawInverseMatrix_any a n cap W hn (hby.over hW))
    have CD1 := Lib.hid (fun W (hW : Below w.heap.size w W) => DrawAreaOf_any a n cap W hn (hby.over hW))
    have CD2 := Lib.hid (fun W (hW : Below w.heap.size w W) => DrawMateOf_any a n cap W hn (hby.over hW))
    have CD3 := Lib.hid (fun W (hW : Below w.heap.size w W) => DrawDistanceOf_any a n cap W hn (hby.over hW))
    have CD4 := Lib.hid (fun W (hW : Below w.heap.size w W) => DrawPrimitiveOf_any a n cap W hn (hby.over hW))
    have CD5 := Lib.hid (fun W (hW : Below w.heap.size w W) => DrawAddPoints_any a n cap W hn (hby.over hW))
    have CD6 := Lib.hid (fun W (hW : Below w.heap.size w W) => DrawApplyMatrix_any a n cap W hn (hby.over hW))
    have CD7 := Lib.hid (fun W (hW : Below w.heap.size w W) => DrawMultiplyMatrices_any a n cap W hn (hby.over hW))
    have CD8 := Lib.hid (fun W (hW : Below w.heap.size w W) => DrawLengthOf_any a n cap W hn (hby.over hW))
    have HB : Hid (Below w.heap.size w w) := Below.refl _ _
    clear hR hby d1 hbig
    go_enter Try.func3, Try.ntmps3
    go_wp2_with fail
    go_at_call 6
    refine (CB.out _).mono ?_
    rintro e w1 ⟨rfl, hb⟩
    have HB := Lib.hid (below_after hb HB.out)
    clear hb
    go_wp2_with fail
    go_at_call 7
    refine (CD0.out _ HB.out).mono ?_
    rintro e w2 ⟨p, q, r, t, rfl, hb⟩
    have HB := Lib.hid (below_after hb HB.out)
    clear hb
    go_upto_region 4 with fail
    obtain ⟨GM, hGM⟩ : ∃ g, w2.heap.size = g := ⟨_, rfl⟩
    obtain ⟨w3, hw3⟩ : ∃ wx, wx = w2.alloc (.cells #[.int .i64 p, .int .i64 q, .int .i64 r, .int .i64 t] 26) := ⟨_, rfl⟩
    rw [← hw3, hGM]
    have HM : Hid (Bk4 w3 GM p q r t) := by rw [hw3, ← hGM]; exact bk4_new w2 p q r t _
    have le_M : w.heap.size ≤ GM := by rw [← hGM]; exact HB.out.size
    have HB := Lib.hid (Below.alloc HB.out HB.out.size (.cells #[.int .i64 p, .int .i64 q, .int .i64 r, .int .i64 t] 26))
    rw [← hw3] at HB
    clear hw3 hGM
    obtain ⟨X, Y, Z, V, c1, i1, s1, f1⟩ := both_InverseMatrix p q r t
    have I1 := Lib.hid i1
    have S1 := Lib.hid s1
    have HF1 := Lib.hid f1
    clear f1
    clear i1 s1
    obtain ⟨⟨qM0, qM1, qM2, qM3⟩, ⟨fM0, fM1, fM2, fM3⟩, zM⟩ := HM.out
    go_wp2_with fail
    go_at_call 8
    refine (I1.out _).mono ?_
    rintro e w4 ⟨rfl, hb⟩
    clear qM0 fM0 qM1 fM1 qM2 fM2 qM3 fM3 zM
    have HM := Lib.hid (HM.out.below hb)
    have HB := Lib.hid (below_after hb HB.out)
    clear hb
    obtain ⟨⟨qM0, qM1, qM2, qM3⟩, ⟨fM0, fM1, fM2, fM3⟩, zM⟩ := HM.out
    go_upto_region 5 with fail
    obtain ⟨GI, hGI⟩ : ∃ g, w4.heap.size = g := ⟨_, rfl⟩
    obtain ⟨w5, hw5⟩ : ∃ wx, wx = w4.alloc (.cells #[.int .i64 X, .int .i64 Y, .int .i64 Z, .int .i64 V] 26) := ⟨_, rfl⟩
    rw [← hw5, hGI]
    have HI : Hid (Bk4 w5 GI X Y Z V) := by rw [hw5, ← hGI]; exact bk4_new w4 X Y Z V _
    have le_I : w.heap.size ≤ GI := by rw [← hGI]; exact HB.out.size
    have ne_I_M : GI ≠ GM := by have := HM.out.2.2; omega
    have ne_M_I : GM ≠ GI := Ne.symm ne_I_M
    clear qM0 fM0 qM1 fM1 qM2 fM2 qM3 fM3 zM
    have HM := Lib.hid (HM.out.below ((Below.refl _ _).alloc (Nat.le_refl _) (.cells #[.int .i64 X, .int .i64 Y, .int .i64 Z, .int .i64 V] 26)))
    have HB := Lib.hid (Below.alloc HB.out HB.out.size (.cells #[.int .i64 X, .int .i64 Y, .int .i64 Z, .int .i64 V] 26))
    rw [← hw5] at HM HB
    clear hw5 hGI
    obtain ⟨⟨qM0, qM1, qM2, qM3⟩, ⟨fM0, fM1, fM2, fM3⟩, zM⟩ := HM.out
    obtain ⟨⟨qI0, qI1, qI2, qI3⟩, ⟨fI0, fI1, fI2, fI3⟩, zI⟩ := HI.out
    go_wp2_with fail
    go_at_call 9
    refine (S1.out _).mono ?_
    rintro e w6 ⟨rfl, hb⟩
    clear qM0 fM0 qM1 fM1 qM2 fM2 qM3 fM3 zM qI0 fI0 qI1 fI1 qI2 fI2 qI3 fI3 zI
    have HM := Lib.hid (HM.out.below hb)
    have HI := Lib.hid (HI.out.below hb)
    have HB := Lib.hid (below_after hb HB.out)
    clear hb
    obtain ⟨⟨qM0, qM1, qM2, qM3⟩, ⟨fM0, fM1, fM2, fM3⟩, zM⟩ := HM.out
    obtain ⟨⟨qI0, qI1, qI2, qI3⟩, ⟨fI0, fI1, fI2, fI3⟩, zI⟩ := HI.out
    go_upto_region 6 with fail
    obtain ⟨GJ, hGJ⟩ : ∃ g, w6.heap.size = g := ⟨_, rfl⟩
    obtain ⟨w7, hw7⟩ : ∃ wx, wx = w6.alloc (.cells #[.int .i64 X, .int .i64 Y, .int .i64 Z, .int .i64 V] 26) := ⟨_, rfl⟩
    rw [← hw7, hGJ]
    have HJ : Hid (Bk4 w7 GJ X Y Z V) := by rw [hw7, ← hGJ]; exact bk4_new w6 X Y Z V _
    have le_J : w.heap.size ≤ GJ := by rw [← hGJ]; exact HB.out.size
    have ne_J_M : GJ ≠ GM := by have := HM.out.2.2; omega
    have ne_M_J : GM ≠ GJ := Ne.symm ne_J_M
    have ne_J_I : GJ ≠ GI := by have := HI.out.2.2; omega
    have ne_I_J : GI ≠ GJ := Ne.symm ne_J_I
    clear qM0 fM0 qM1 fM1 qM2 fM2 qM3 fM3 zM qI0 fI0 qI1 fI1 qI2 fI2 qI3 fI3 zI
    have HM := Lib.hid (HM.out.below ((Below.refl _ _).alloc (Nat.le_refl _) (.cells #[.int .i64 X, .int .i64 Y, .int .i64 Z, .int .i64 V] 26)))
    have HI := Lib.hid (HI.out.below ((Below.refl _ _).alloc (Nat.le_refl _) (.cells #[.int .i64 X, .int .i64 Y, .int .i64 Z, .int .i64 V] 26)))
    have HB := Lib.hid (Below.alloc HB.out HB.out.size (.cells #[.int .i64 X, .int .i64 Y, .int .i64 Z, .int .i64 V] 26))
    rw [← hw7] at HM HI HB
    clear hw7 hGJ
    obtain ⟨⟨qM0, qM1, qM2, qM3⟩, ⟨fM0, fM1, fM2, fM3⟩, zM⟩ := HM.out
    obtain ⟨⟨qI0, qI1, qI2, qI3⟩, ⟨fI0, fI1, fI2, fI3⟩, zI⟩ := HI.out
    obtain ⟨⟨qJ0, qJ1, qJ2, qJ3⟩, ⟨fJ0, fJ1, fJ2, fJ3⟩, zJ⟩ := HJ.out
    go_wp2_with fail
    go_at_call 10
    refine (CD1.out _ HB.out).mono ?_
    rintro e w8 ⟨x0, y0, x1, y1, x2, y2, rfl, hb⟩
    clear qM0 fM0 qM1 fM1 qM2 fM2 qM3 fM3 zM qI0 fI0 qI1 fI1 qI2 fI2 qI3 fI3 zI qJ0 fJ0 qJ1 fJ1 qJ2 fJ2 qJ3 fJ3 zJ
    have HM := Lib.hid (HM.out.below hb)
    have HI := Lib.hid (HI.out.below hb)
    have HJ := Lib.hid (HJ.out.below hb)
    have HB := Lib.hid (below_after hb HB.out)
    clear hb
    obtain ⟨⟨qM0, qM1, qM2, qM3⟩, ⟨fM0, fM1, fM2, fM3⟩, zM⟩ := HM.out
    obtain ⟨⟨qI0, qI1, qI2, qI3⟩, ⟨fI0, fI1, fI2, fI3⟩, zI⟩ := HI.out
    obtain ⟨⟨qJ0, qJ1, qJ2, qJ3⟩, ⟨fJ0, fJ1, fJ2, fJ3⟩, zJ⟩ := HJ.out
    go_upto_region 7 with fail
    obtain ⟨w9, hw9⟩ : ∃ wx, wx = ((w8.alloc (.cells #[.int .i64 x0, .int .i64 y0] 30)).alloc (.cells #[.int .i64 x1, .int .i64 y1] 30)).alloc (.cells #[.int .i64 x2, .int .i64 y2] 30) := ⟨_, rfl⟩
    rw [← hw9]
    obtain ⟨GA, hGA⟩ : ∃ g, w8.heap.size = g := ⟨_, rfl⟩
    have HA : Hid (Bk2 w9 GA x0 y0) := by
      have h := (bk2_new w8 x0 y0 30).below (W' := w9) (by rw [hw9]; (repeat' (first | (with_reducible exact Below.refl _ _) | (with_reducible refine Below.alloc ?_ ?_ _) | (with_reducible refine Below.setCell ?_ ?_ _) | (with_reducible refine Below.drew ?_) | (with_reducible refine below_drewN ?_ _) | (with_reducible assumption) | (with_reducible refine below_after (by with_reducible assumption) ?_) | go_size)))
      (try simp only [World.size_alloc] at h)
      rw [hGA] at h
      exact h
    have le_A : w.heap.size ≤ GA := by have := HB.out.size; omega
    have ne_A_M : GA ≠ GM := by have := HM.out.2.2; omega
    have ne_M_A : GM ≠ GA := Ne.symm ne_A_M
    have ne_A_I : GA ≠ GI := by have := HI.out.2.2; omega
    have ne_I_A : GI ≠ GA := Ne.symm ne_A_I
    have ne_A_J : GA ≠ GJ := by have := HJ.out.2.2; omega
    have ne_J_A : GJ ≠ GA := Ne.symm ne_A_J
    obtain ⟨GC, hGC⟩ : ∃ g, w8.heap.size + 1 = g := ⟨_, rfl⟩
    have HC : Hid (Bk2 w9 GC x1 y1) := by
      have h := (bk2_new (w8.alloc (.cells #[.int .i64 x0, .int .i64 y0] 30)) x1 y1 30).below (W' := w9) (by rw [hw9]; (repeat' (first | (with_reducible exact Below.refl _ _) | (with_reducible refine Below.alloc ?_ ?_ _) | (with_reducible refine Below.setCell ?_ ?_ _) | (with_reducible refine Below.drew ?_) | (with_reducible refine below_drewN ?_ _) | (with_reducible assumption) | (with_reducible refine below_after (by with_reducible assumption) ?_) | go_size)))
      (try simp only [World.size_alloc] at h)
      rw [hGC] at h
      exact h
    have le_C : w.heap.size ≤ GC := by have := HB.out.size; omega
    have ne_C_M : GC ≠ GM := by have := HM.out.2.2; omega
    have ne_M_C : GM ≠ GC := Ne.symm ne_C_M
    have ne_C_I : GC ≠ GI := by have := HI.out.2.2; omega
    have ne_I_C : GI ≠ GC := Ne.symm ne_C_I
    have ne_C_J : GC ≠ GJ := by have := HJ.out.2.2; omega
    have ne_J_C : GJ ≠ GC := Ne.symm ne_C_J
    have ne_C_A : GC ≠ GA := by omega
    have ne_A_C : GA ≠ GC := Ne.symm ne_C_A
    obtain ⟨GD, hGD⟩ : ∃ g, w8.heap.size + 1 + 1 = g := ⟨_, rfl⟩
    have HD : Hid (Bk2 w9 GD x2 y2) := by
      have h := (bk2_new ((w8.alloc (.cells #[.int .i64 x0, .int .i64 y0] 30)).alloc (.cells #[.int .i64 x1, .int .i64 y1] 30)) x2 y2 30).below (W' := w9) (by rw [hw9]; (repeat' (first | (with_reducible exact Below.refl _ _) | (with_reducible refine Below.alloc ?_ ?_ _) | (with_reducible refine Below.setCell ?_ ?_ _) | (with_reducible refine Below.drew ?_) | (with_reducible refine below_drewN ?_ _) | (with_reducible assumption) | (with_reducible refine below_after (by with_reducible assumption) ?_) | go_size)))
      (try simp only [World.size_alloc] at h)
      rw [hGD] at h
      exact h
    have le_D : w.heap.size ≤ GD := by have := HB.out.size; omega
    have ne_D_M : GD ≠ GM := by have := HM.out.2.2; omega
    have ne_M_D : GM ≠ GD := Ne.symm ne_D_M
    have ne_D_I : GD ≠ GI := by have := HI.out.2.2; omega
    have ne_I_D : GI ≠ GD := Ne.symm ne_D_I
    have ne_D_J : GD ≠ GJ := by have := HJ.out.2.2; omega
    have ne_J_D : GJ ≠ GD := Ne.symm ne_D_J
    have ne_D_A : GD ≠ GA := by omega
    have ne_A_D : GA ≠ GD := Ne.symm ne_D_A
    have ne_D_C : GD ≠ GC := by omega
    have ne_C_D : GC ≠ GD := Ne.symm ne_D_C
    clear qM0 fM0 qM1 fM1 qM2 fM2 qM3 fM3 zM qI0 fI0 qI1 fI1 qI2 fI2 qI3 fI3 zI qJ0 fJ0 qJ1 fJ1 qJ2 fJ2 qJ3 fJ3 zJ
    have hbn : Below w8.heap.size w8 w9 := by rw [hw9]; (repeat' (first | (with_reducible exact Below.refl _ _) | (with_reducible refine Below.alloc ?_ ?_ _) | (with_reducible refine Below.setCell ?_ ?_ _) | (with_reducible refine Below.drew ?_) | (with_reducible refine below_drewN ?_ _) | (with_reducible assumption) | (with_reducible refine below_after (by with_reducible assumption) ?_) | go_size))
    have HM := Lib.hid (HM.out.below hbn)
    have HI := Lib.hid (HI.out.below hbn)
    have HJ := Lib.hid (HJ.out.below hbn)
    have HB := Lib.hid (below_after hbn HB.out)
    clear hbn
    rw [hGA] at hGC
    rw [hGA] at hGD
    rw [hGC] at hGD
    simp only [hGA]
    simp only [hGC]
    simp only [hGD]
    clear hw9 hGA hGC hGD
    obtain ⟨ar, c3, i3, s3, f3⟩ := both_AreaOf x0 y0 x1 y1 x2 y2
    have I3 := Lib.hid i3
    have S3 := Lib.hid s3
    have HF3 := Lib.hid f3
    clear f3
    clear i3 s3
    obtain ⟨⟨qM0, qM1, qM2, qM3⟩, ⟨fM0, fM1, fM2, fM3⟩, zM⟩ := HM.out
    obtain ⟨⟨qI0, qI1, qI2, qI3⟩, ⟨fI0, fI1, fI2, fI3⟩, zI⟩ := HI.out
    obtain ⟨⟨qJ0, qJ1, qJ2, qJ3⟩, ⟨fJ0, fJ1, fJ2, fJ3⟩, zJ⟩ := HJ.out
    obtain ⟨⟨qA0, qA1⟩, ⟨fA0, fA1⟩, zA⟩ := HA.out
    obtain ⟨⟨qC0, qC1⟩, ⟨fC0, fC1⟩, zC⟩ := HC.out
    obtain ⟨⟨qD0, qD1⟩, ⟨fD0, fD1⟩, zD⟩ := HD.out
    go_wp2_with fail
    go_at_call 11
    refine (I3.out _).mono ?_
    rintro e w10 ⟨rfl, hb⟩
    clear qM0 fM0 qM1 fM1 qM2 fM2 qM3 fM3 zM qI0 fI0 qI1 fI1 qI2 fI2 qI3 fI3 zI qJ0 fJ0 qJ1 fJ1 qJ2 fJ2 qJ3 fJ3 zJ qA0 fA0 qA1 fA1 zA qC0 fC0 qC1 fC1 zC qD0 fD0 qD1 fD1 zD
    have HM := Lib.hid (HM.out.below hb)
    have HI := Lib.hid (HI.out.below hb)
    have HJ := Lib.hid (HJ.out.below hb)
    have HA := Lib.hid (HA.out.below hb)
    have HC := Lib.hid (HC.out.below hb)
    have HD := Lib.hid (HD.out.below hb)
    have HB := Lib.hid (below_after hb HB.out)
    clear hb
    obtain ⟨⟨qM0, qM1, qM2, qM3⟩, ⟨fM0, fM1, fM2, fM3⟩, zM⟩ := HM.out
    obtain ⟨⟨qI0, qI1, qI2, qI3⟩, ⟨fI0, fI1, fI2, fI3⟩, zI⟩ := HI.out
    obtain ⟨⟨qJ0, qJ1, qJ2, qJ3⟩, ⟨fJ0, fJ1, fJ2, fJ3⟩, zJ⟩ := HJ.out
    obtain ⟨⟨qA0, qA1⟩, ⟨fA0, fA1⟩, zA⟩ := HA.out
    obtain ⟨⟨qC0, qC1⟩, ⟨fC0, fC1⟩, zC⟩ := HC.out
    obtain ⟨⟨qD0, qD1⟩, ⟨fD0, fD1⟩, zD⟩ := HD.out
    go_wp2_with fail
    go_at_call 12
    refine (S3.out _).mono ?_
    rintro e w11 ⟨rfl, hb⟩
    clear qM0 fM0 qM1 fM1 qM2 fM2 qM3 fM3 zM qI0 fI0 qI1 fI1 qI2 fI2 qI3 fI3 zI qJ0 fJ0 qJ1 fJ1 qJ2 fJ2 qJ3 fJ3 zJ qA0 fA0 qA1 fA1 zA qC0 fC0 qC1 fC1 zC qD0 fD0 qD1 fD1 zD
    have HM := Lib.hid (HM.out.below hb)
    have HI := Lib.hid (HI.out.below hb)
    have HJ := Lib.hid (HJ.out.below hb)
    have HA := Lib.hid (HA.out.below hb)
    have HC := Lib.hid (HC.out.below hb)
    have HD := Lib.hid (HD.out.below hb)
    have HB := Lib.hid (below_after hb HB.out)
    clear hb
    have I4 := Lib.hid (fun w => impl_IsMatrix_any p q r t w)
    have S4 := Lib.hid (fun w => spec_IsMatrix_anyP p q r t w)
    obtain ⟨bm, hbm⟩ : ∃ b, isMx p q r t = b := ⟨_, rfl⟩
    rw [hbm] at I4 S4
    clear hbm
    have HXX : Hid (∀ W, Below w11.heap.size w11 W → Bk4 W GM p q r t ∧ Bk4 W GI X Y Z V ∧ Bk4 W GJ X Y Z V ∧ Bk2 W GA x0 y0 ∧ Bk2 W GC x1 y1 ∧ Bk2 W GD x2 y2) := fun W hW => ⟨HM.out.below hW, HI.out.below hW, HJ.out.below hW, HA.out.below hW, HC.out.below hW, HD.out.below hW⟩
    go_wp2_with fail
    refine wp_region_held_drew (S := fun W => Below w11.heap.size w11 W) (by kernel_rfl) ?_ (fun hHeld => ?_); focus ((try dsimp only); exact (Below.refl _ _).drew)
    have HM := Lib.hid (HM.out.below (Below.drew (Below.refl _ _)))
    have HI := Lib.hid (HI.out.below (Below.drew (Below.refl _ _)))
    have HJ := Lib.hid (HJ.out.below (Below.drew (Below.refl _ _)))
    have HA := Lib.hid (HA.out.below (Below.drew (Below.refl _ _)))
    have HC := Lib.hid (HC.out.below (Below.drew (Below.refl _ _)))
    have HD := Lib.hid (HD.out.below (Below.drew (Below.refl _ _)))
    have hHeld : Below w11.heap.size w11 _ := hHeld
    obtain ⟨wD11, hwD11⟩ : ∃ wD, w11.drew = wD := ⟨_, rfl⟩
    rw [hwD11] at hHeld HM HI HJ HA HC HD ⊢
    clear hwD11
    (refine wpAnyH_take (i := 0) (v := ?_) rfl (by kernel_rfl) (by kernel_rfl) (by kernel_rfl) (fun _ _ _ h => h) (Or.inl ⟨rfl, ?_⟩) (by assumption) ?_; rotate_left; focus (intro W hSw; (try dsimp only at hSw); have hxx := HXX.out _ hSw; obtain ⟨hxM, hxI, hxJ, hxA, hxC, hxD⟩ := hxx; obtain ⟨⟨iM0, iM1, iM2, iM3⟩, _, _⟩ := hxM; obtain ⟨⟨iI0, iI1, iI2, iI3⟩, _, _⟩ := hxI; obtain ⟨⟨iJ0, iJ1, iJ2, iJ3⟩, _, _⟩ := hxJ; obtain ⟨⟨iA0, iA1⟩, _, _⟩ := hxA; obtain ⟨⟨iC0, iC1⟩, _, _⟩ := hxC; obtain ⟨⟨iD0, iD1⟩, _, _⟩ := hxD; go_simp; try (with_reducible rfl))); (try simp only [Act.put, List.getElem_toArray, List.getElem_cons_succ, List.getElem_cons_zero, List.setIfInBounds_toArray, List.set_cons_zero, List.set_cons_succ])
    (refine wpAnyH_take (i := 1) (v := ?_) rfl (by kernel_rfl) (by kernel_rfl) (by kernel_rfl) (fun _ _ _ h => h) (Or.inl ⟨rfl, ?_⟩) (by assumption) ?_; rotate_left; focus (intro W hSw; (try dsimp only at hSw); have hxx := HXX.out _ hSw; obtain ⟨hxM, hxI, hxJ, hxA, hxC, hxD⟩ := hxx; obtain ⟨⟨iM0, iM1, iM2, iM3⟩, _, _⟩ := hxM; obtain ⟨⟨iI0, iI1, iI2, iI3⟩, _, _⟩ := hxI; obtain ⟨⟨iJ0, iJ1, iJ2, iJ3⟩, _, _⟩ := hxJ; obtain ⟨⟨iA0, iA1⟩, _, _⟩ := hxA; obtain ⟨⟨iC0, iC1⟩, _, _⟩ := hxC; obtain ⟨⟨iD0, iD1⟩, _, _⟩ := hxD; go_simp; try (with_reducible rfl))); (try simp only [Act.put, List.getElem_toArray, List.getElem_cons_succ, List.getElem_cons_zero, List.setIfInBounds_toArray, List.set_cons_zero, List.set_cons_succ])
    (refine wpAnyH_take (i := 2) (v := ?_) rfl (by kernel_rfl) (by kernel_rfl) (by kernel_rfl) (fun _ _ _ h => h) (Or.inl ⟨rfl, ?_⟩) (by assumption) ?_; rotate_left; focus (intro W hSw; (try dsimp only at hSw); have hxx := HXX.out _ hSw; obtain ⟨hxM, hxI, hxJ, hxA, hxC, hxD⟩ := hxx; obtain ⟨⟨iM0, iM1, iM2, iM3⟩, _, _⟩ := hxM; obtain ⟨⟨iI0, iI1, iI2, iI3⟩, _, _⟩ := hxI; obtain ⟨⟨iJ0, iJ1, iJ2, iJ3⟩, _, _⟩ := hxJ; obtain ⟨⟨iA0, iA1⟩, _, _⟩ := hxA; obtain ⟨⟨iC0, iC1⟩, _, _⟩ := hxC; obtain ⟨⟨iD0, iD1⟩, _, _⟩ := hxD; go_simp; try (with_reducible rfl))); (try simp only [Act.put, List.getElem_toArray, List.getElem_cons_succ, List.getElem_cons_zero, List.setIfInBounds_toArray, List.set_cons_zero, List.set_cons_succ])
    (refine wpAnyH_take (i := 3) (v := ?_) rfl (by kernel_rfl) (by kernel_rfl) (by kernel_rfl) (fun _ _ _ h => h) (Or.inl ⟨rfl, ?_⟩) (by assumption) ?_; rotate_left; focus (intro W hSw; (try dsimp only at hSw); have hxx := HXX.out _ hSw; obtain ⟨hxM, hxI, hxJ, hxA, hxC, hxD⟩ := hxx; obtain ⟨⟨iM0, iM1, iM2, iM3⟩, _, _⟩ := hxM; obtain ⟨⟨iI0, iI1, iI2, iI3⟩, _, _⟩ := hxI; obtain ⟨⟨iJ0, iJ1, iJ2, iJ3⟩, _, _⟩ := hxJ; obtain ⟨⟨iA0, iA1⟩, _, _⟩ := hxA; obtain ⟨⟨iC0, iC1⟩, _, _⟩ := hxC; obtain ⟨⟨iD0, iD1⟩, _, _⟩ := hxD; go_simp; try (with_reducible rfl))); (try simp only [Act.put, List.getElem_toArray, List.getElem_cons_succ, List.getElem_cons_zero, List.setIfInBounds_toArray, List.set_cons_zero, List.set_cons_succ])
    (refine wpAnyH_take (i := 4) (v := ?_) rfl (by kernel_rfl) (by kernel_rfl) (by kernel_rfl) (fun _ _ _ h => h) (Or.inl ⟨rfl, ?_⟩) (by assumption) ?_; rotate_left; focus (intro W hSw; (try dsimp only at hSw); have hxx := HXX.out _ hSw; obtain ⟨hxM, hxI, hxJ, hxA, hxC, hxD⟩ := hxx; obtain ⟨⟨iM0, iM1, iM2, iM3⟩, _, _⟩ := hxM; obtain ⟨⟨iI0, iI1, iI2, iI3⟩, _, _⟩ := hxI; obtain ⟨⟨iJ0, iJ1, iJ2, iJ3⟩, _, _⟩ := hxJ; obtain ⟨⟨iA0, iA1⟩, _, _⟩ := hxA; obtain ⟨⟨iC0, iC1⟩, _, _⟩ := hxC; obtain ⟨⟨iD0, iD1⟩, _, _⟩ := hxD; go_simp; try (with_reducible rfl))); (try simp only [Act.put, List.getElem_toArray, List.getElem_cons_succ, List.getElem_cons_zero, List.setIfInBounds_toArray, List.set_cons_zero, List.set_cons_succ])
    (refine wpAnyH_take (i := 5) (v := ?_) rfl (by kernel_rfl) (by kernel_rfl) (by kernel_rfl) (fun _ _ _ h => h) (Or.inl ⟨rfl, ?_⟩) (by assumption) ?_; rotate_left; focus (intro W hSw; (try dsimp only at hSw); have hxx := HXX.out _ hSw; obtain ⟨hxM, hxI, hxJ, hxA, hxC, hxD⟩ := hxx; obtain ⟨⟨iM0, iM1, iM2, iM3⟩, _, _⟩ := hxM; obtain ⟨⟨iI0, iI1, iI2, iI3⟩, _, _⟩ := hxI; obtain ⟨⟨iJ0, iJ1, iJ2, iJ3⟩, _, _⟩ := hxJ; obtain ⟨⟨iA0, iA1⟩, _, _⟩ := hxA; obtain ⟨⟨iC0, iC1⟩, _, _⟩ := hxC; obtain ⟨⟨iD0, iD1⟩, _, _⟩ := hxD; go_simp; try (with_reducible rfl))); (try simp only [Act.put, List.getElem_toArray, List.getElem_cons_succ, List.getElem_cons_zero, List.setIfInBounds_toArray, List.set_cons_zero, List.set_cons_succ])
    (refine wpAnyH_take (i := 6) (v := ?_) rfl (by kernel_rfl) (by kernel_rfl) (by kernel_rfl) (fun _ _ _ h => h) (Or.inl ⟨rfl, ?_⟩) (by assumption) ?_; rotate_left; focus (intro W hSw; (try dsimp only at hSw); have hxx := HXX.out _ hSw; obtain ⟨hxM, hxI, hxJ, hxA, hxC, hxD⟩ := hxx; obtain ⟨⟨iM0, iM1, iM2, iM3⟩, _, _⟩ := hxM; obtain ⟨⟨iI0, iI1, iI2, iI3⟩, _, _⟩ := hxI; obtain ⟨⟨iJ0, iJ1, iJ2, iJ3⟩, _, _⟩ := hxJ; obtain ⟨⟨iA0, iA1⟩, _, _⟩ := hxA; obtain ⟨⟨iC0, iC1⟩, _, _⟩ := hxC; obtain ⟨⟨iD0, iD1⟩, _, _⟩ := hxD; go_simp; try (with_reducible rfl))); (try simp only [Act.put, List.getElem_toArray, List.getElem_cons_succ, List.getElem_cons_zero, List.setIfInBounds_toArray, List.set_cons_zero, List.set_cons_succ])
    (refine wpAnyH_take (i := 7) (v := ?_) rfl (by kernel_rfl) (by kernel_rfl) (by kernel_rfl) (fun _ _ _ h => h) (Or.inl ⟨rfl, ?_⟩) (by assumption) ?_; rotate_left; focus (intro W hSw; (try dsimp only at hSw); have hxx := HXX.out _ hSw; obtain ⟨hxM, hxI, hxJ, hxA, hxC, hxD⟩ := hxx; obtain ⟨⟨iM0, iM1, iM2, iM3⟩, _, _⟩ := hxM; obtain ⟨⟨iI0, iI1, iI2, iI3⟩, _, _⟩ := hxI; obtain ⟨⟨iJ0, iJ1, iJ2, iJ3⟩, _, _⟩ := hxJ; obtain ⟨⟨iA0, iA1⟩, _, _⟩ := hxA; obtain ⟨⟨iC0, iC1⟩, _, _⟩ := hxC; obtain ⟨⟨iD0, iD1⟩, _, _⟩ := hxD; go_simp; try (with_reducible rfl))); (try simp only [Act.put, List.getElem_toArray, List.getElem_cons_succ, List.getElem_cons_zero, List.setIfInBounds_toArray, List.set_cons_zero, List.set_cons_succ])
    (refine wpAnyH_take (i := 8) (v := ?_) rfl (by kernel_rfl) (by kernel_rfl) (by kernel_rfl) (fun _ _ _ h => h) (Or.inl ⟨rfl, ?_⟩) (by assumption) ?_; rotate_left; focus (intro W hSw; (try dsimp only at hSw); have hxx := HXX.out _ hSw; obtain ⟨hxM, hxI, hxJ, hxA, hxC, hxD⟩ := hxx; obtain ⟨⟨iM0, iM1, iM2, iM3⟩, _, _⟩ := hxM; obtain ⟨⟨iI0, iI1, iI2, iI3⟩, _, _⟩ := hxI; obtain ⟨⟨iJ0, iJ1, iJ2, iJ3⟩, _, _⟩ := hxJ; obtain ⟨⟨iA0, iA1⟩, _, _⟩ := hxA; obtain ⟨⟨iC0, iC1⟩, _, _⟩ := hxC; obtain ⟨⟨iD0, iD1⟩, _, _⟩ := hxD; go_simp; try (with_reducible rfl))); (try simp only [Act.put, List.getElem_toArray, List.getElem_cons_succ, List.getElem_cons_zero, List.setIfInBounds_toArray, List.set_cons_zero, List.set_cons_succ])
    (refine wpAnyH_take (i := 9) (v := ?_) rfl (by kernel_rfl) (by kernel_rfl) (by kernel_rfl) (fun _ _ _ h => h) (Or.inl ⟨rfl, ?_⟩) (by assumption) ?_; rotate_left; focus (intro W hSw; (try dsimp only at hSw); have hxx := HXX.out _ hSw; obtain ⟨hxM, hxI, hxJ, hxA, hxC, hxD⟩ := hxx; obtain ⟨⟨iM0, iM1, iM2, iM3⟩, _, _⟩ := hxM; obtain ⟨⟨iI0, iI1, iI2, iI3⟩, _, _⟩ := hxI; obtain ⟨⟨iJ0, iJ1, iJ2, iJ3⟩, _, _⟩ := hxJ; obtain ⟨⟨iA0, iA1⟩, _, _⟩ := hxA; obtain ⟨⟨iC0, iC1⟩, _, _⟩ := hxC; obtain ⟨⟨iD0, iD1⟩, _, _⟩ := hxD; go_simp; try (with_reducible rfl))); (try simp only [Act.put, List.getElem_toArray, List.getElem_cons_succ, List.getElem_cons_zero, List.setIfInBounds_toArray, List.set_cons_zero, List.set_cons_succ])
    (refine wpAnyH_take (i := 10) (v := ?_) rfl (by kernel_rfl) (by kernel_rfl) (by kernel_rfl) (fun _ _ _ h => h) (Or.inl ⟨rfl, ?_⟩) (by assumption) ?_; rotate_left; focus (intro W hSw; (try dsimp only at hSw); have hxx := HXX.out _ hSw; obtain ⟨hxM, hxI, hxJ, hxA, hxC, hxD⟩ := hxx; obtain ⟨⟨iM0, iM1, iM2, iM3⟩, _, _⟩ := hxM; obtain ⟨⟨iI0, iI1, iI2, iI3⟩, _, _⟩ := hxI; obtain ⟨⟨iJ0, iJ1, iJ2, iJ3⟩, _, _⟩ := hxJ; obtain ⟨⟨iA0, iA1⟩, _, _⟩ := hxA; obtain ⟨⟨iC0, iC1⟩, _, _⟩ := hxC; obtain ⟨⟨iD0, iD1⟩, _, _⟩ := hxD; go_simp; try (with_reducible rfl))); (try simp only [Act.put, List.getElem_toArray, List.getElem_cons_succ, List.getElem_cons_zero, List.setIfInBounds_toArray, List.set_cons_zero, List.set_cons_succ])
    (refine wpAnyH_take (i := 11) (v := ?_) rfl (by kernel_rfl) (by kernel_rfl) (by kernel_rfl) (fun _ _ _ h => h) (Or.inl ⟨rfl, ?_⟩) (by assumption) ?_; rotate_left; focus (intro W hSw; (try dsimp only at hSw); have hxx := HXX.out _ hSw; obtain ⟨hxM, hxI, hxJ, hxA, hxC, hxD⟩ := hxx; obtain ⟨⟨iM0, iM1, iM2, iM3⟩, _, _⟩ := hxM; obtain ⟨⟨iI0, iI1, iI2, iI3⟩, _, _⟩ := hxI; obtain ⟨⟨iJ0, iJ1, iJ2, iJ3⟩, _, _⟩ := hxJ; obtain ⟨⟨iA0, iA1⟩, _, _⟩ := hxA; obtain ⟨⟨iC0, iC1⟩, _, _⟩ := hxC; obtain ⟨⟨iD0, iD1⟩, _, _⟩ := hxD; go_simp; try (with_reducible rfl))); (try simp only [Act.put, List.getElem_toArray, List.getElem_cons_succ, List.getElem_cons_zero, List.setIfInBounds_toArray, List.set_cons_zero, List.set_cons_succ])
    (refine wpAnyH_take (i := 12) (v := ?_) rfl (by kernel_rfl) (by kernel_rfl) (by kernel_rfl) (fun _ _ _ h => h) (Or.inl ⟨rfl, ?_⟩) (by assumption) ?_; rotate_left; focus (intro W hSw; (try dsimp only at hSw); have hxx := HXX.out _ hSw; obtain ⟨hxM, hxI, hxJ, hxA, hxC, hxD⟩ := hxx; obtain ⟨⟨iM0, iM1, iM2, iM3⟩, _, _⟩ := hxM; obtain ⟨⟨iI0, iI1, iI2, iI3⟩, _, _⟩ := hxI; obtain ⟨⟨iJ0, iJ1, iJ2, iJ3⟩, _, _⟩ := hxJ; obtain ⟨⟨iA0, iA1⟩, _, _⟩ := hxA; obtain ⟨⟨iC0, iC1⟩, _, _⟩ := hxC; obtain ⟨⟨iD0, iD1⟩, _, _⟩ := hxD; go_simp; try (with_reducible rfl))); (try simp only [Act.put, List.getElem_toArray, List.getElem_cons_succ, List.getElem_cons_zero, List.setIfInBounds_toArray, List.set_cons_zero, List.set_cons_succ])
    (refine wpAnyH_take (i := 13) (v := ?_) rfl (by kernel_rfl) (by kernel_rfl) (by kernel_rfl) (fun _ _ _ h => h) (Or.inl ⟨rfl, ?_⟩) (by assumption) ?_; rotate_left; focus (intro W hSw; (try dsimp only at hSw); have hxx := HXX.out _ hSw; obtain ⟨hxM, hxI, hxJ, hxA, hxC, hxD⟩ := hxx; obtain ⟨⟨iM0, iM1, iM2, iM3⟩, _, _⟩ := hxM; obtain ⟨⟨iI0, iI1, iI2, iI3⟩, _, _⟩ := hxI; obtain ⟨⟨iJ0, iJ1, iJ2, iJ3⟩, _, _⟩ := hxJ; obtain ⟨⟨iA0, iA1⟩, _, _⟩ := hxA; obtain ⟨⟨iC0, iC1⟩, _, _⟩ := hxC; obtain ⟨⟨iD0, iD1⟩, _, _⟩ := hxD; go_simp; try (with_reducible rfl))); (try simp only [Act.put, List.getElem_toArray, List.getElem_cons_succ, List.getElem_cons_zero, List.setIfInBounds_toArray, List.set_cons_zero, List.set_cons_succ])
    (refine wpAnyH_take (i := 14) (v := ?_) rfl (by kernel_rfl) (by kernel_rfl) (by kernel_rfl) (fun _ _ _ h => h) (Or.inl ⟨rfl, ?_⟩) (by assumption) ?_; rotate_left; focus (intro W hSw; (try dsimp only at hSw); have hxx := HXX.out _ hSw; obtain ⟨hxM, hxI, hxJ, hxA, hxC, hxD⟩ := hxx; obtain ⟨⟨iM0, iM1, iM2, iM3⟩, _, _⟩ := hxM; obtain ⟨⟨iI0, iI1, iI2, iI3⟩, _, _⟩ := hxI; obtain ⟨⟨iJ0, iJ1, iJ2, iJ3⟩, _, _⟩ := hxJ; obtain ⟨⟨iA0, iA1⟩, _, _⟩ := hxA; obtain ⟨⟨iC0, iC1⟩, _, _⟩ := hxC; obtain ⟨⟨iD0, iD1⟩, _, _⟩ := hxD; go_simp; try (with_reducible rfl))); (try simp only [Act.put, List.getElem_toArray, List.getElem_cons_succ, List.getElem_cons_zero, List.setIfInBounds_toArray, List.set_cons_zero, List.set_cons_succ])
    (refine wpAnyH_take (i := 15) (v := ?_) rfl (by kernel_rfl) (by kernel_rfl) (by kernel_rfl) (fun _ _ _ h => h) (Or.inl ⟨rfl, ?_⟩) (by assumption) ?_; rotate_left; focus (intro W hSw; (try dsimp only at hSw); have hxx := HXX.out _ hSw; obtain ⟨hxM, hxI, hxJ, hxA, hxC, hxD⟩ := hxx; obtain ⟨⟨iM0, iM1, iM2, iM3⟩, _, _⟩ := hxM; obtain ⟨⟨iI0, iI1, iI2, iI3⟩, _, _⟩ := hxI; obtain ⟨⟨iJ0, iJ1, iJ2, iJ3⟩, _, _⟩ := hxJ; obtain ⟨⟨iA0, iA1⟩, _, _⟩ := hxA; obtain ⟨⟨iC0, iC1⟩, _, _⟩ := hxC; obtain ⟨⟨iD0, iD1⟩, _, _⟩ := hxD; go_simp; try (with_reducible rfl))); (try simp only [Act.put, List.getElem_toArray, List.getElem_cons_succ, List.getElem_cons_zero, List.setIfInBounds_toArray, List.set_cons_zero, List.set_cons_succ])
    (refine wpAnyH_take (i := 16) (v := ?_) rfl (by kernel_rfl) (by kernel_rfl) (by kernel_rfl) (fun _ _ _ h => h) (Or.inl ⟨rfl, ?_⟩) (by assumption) ?_; rotate_left; focus (intro W hSw; (try dsimp only at hSw); have hxx := HXX.out _ hSw; obtain ⟨hxM, hxI, hxJ, hxA, hxC, hxD⟩ := hxx; obtain ⟨⟨iM0, iM1, iM2, iM3⟩, _, _⟩ := hxM; obtain ⟨⟨iI0, iI1, iI2, iI3⟩, _, _⟩ := hxI; obtain ⟨⟨iJ0, iJ1, iJ2, iJ3⟩, _, _⟩ := hxJ; obtain ⟨⟨iA0, iA1⟩, _, _⟩ := hxA; obtain ⟨⟨iC0, iC1⟩, _, _⟩ := hxC; obtain ⟨⟨iD0, iD1⟩, _, _⟩ := hxD; go_simp; try (with_reducible rfl))); (try simp only [Act.put, List.getElem_toArray, List.getElem_cons_succ, List.getElem_cons_zero, List.setIfInBounds_toArray, List.set_cons_zero, List.set_cons_succ])
    (refine wpAnyH_take (i := 17) (v := ?_) rfl (by kernel_rfl) (by kernel_rfl) (by kernel_rfl) (fun _ _ _ h => h) (Or.inl ⟨rfl, ?_⟩) (by assumption) ?_; rotate_left; focus (intro W hSw; (try dsimp only at hSw); have hxx := HXX.out _ hSw; obtain ⟨hxM, hxI, hxJ, hxA, hxC, hxD⟩ := hxx; obtain ⟨⟨iM0, iM1, iM2, iM3⟩, _, _⟩ := hxM; obtain ⟨⟨iI0, iI1, iI2, iI3⟩, _, _⟩ := hxI; obtain ⟨⟨iJ0, iJ1, iJ2, iJ3⟩, _, _⟩ := hxJ; obtain ⟨⟨iA0, iA1⟩, _, _⟩ := hxA; obtain ⟨⟨iC0, iC1⟩, _, _⟩ := hxC; obtain ⟨⟨iD0, iD1⟩, _, _⟩ := hxD; go_simp; try (with_reducible rfl))); (try simp only [Act.put, List.getElem_toArray, List.getElem_cons_succ, List.getElem_cons_zero, List.setIfInBounds_toArray, List.set_cons_zero, List.set_cons_succ])
    (refine wpAnyH_take (i := 18) (v := ?_) rfl (by kernel_rfl) (by kernel_rfl) (by kernel_rfl) (fun _ _ _ h => h) (Or.inl ⟨rfl, ?_⟩) (by assumption) ?_; rotate_left; focus (intro W hSw; (try dsimp only at hSw); have hxx := HXX.out _ hSw; obtain ⟨hxM, hxI, hxJ, hxA, hxC, hxD⟩ := hxx; obtain ⟨⟨iM0, iM1, iM2, iM3⟩, _, _⟩ := hxM; obtain ⟨⟨iI0, iI1, iI2, iI3⟩, _, _⟩ := hxI; obtain ⟨⟨iJ0, iJ1, iJ2, iJ3⟩, _, _⟩ := hxJ; obtain ⟨⟨iA0, iA1⟩, _, _⟩ := hxA; obtain ⟨⟨iC0, iC1⟩, _, _⟩ := hxC; obtain ⟨⟨iD0, iD1⟩, _, _⟩ := hxD; go_simp; try (with_reducible rfl))); (try simp only [Act.put, List.getElem_toArray, List.getElem_cons_succ, List.getElem_cons_zero, List.setIfInBounds_toArray, List.set_cons_zero, List.set_cons_succ])
    (refine wpAnyH_take (i := 19) (v := ?_) rfl (by kernel_rfl) (by kernel_rfl) (by kernel_rfl) (fun _ _ _ h => h) (Or.inl ⟨rfl, ?_⟩) (by assumption) ?_; rotate_left; focus (intro W hSw; (try dsimp only at hSw); have hxx := HXX.out _ hSw; obtain ⟨hxM, hxI, hxJ, hxA, hxC, hxD⟩ := hxx; obtain ⟨⟨iM0, iM1, iM2, iM3⟩, _, _⟩ := hxM; obtain ⟨⟨iI0, iI1, iI2, iI3⟩, _, _⟩ := hxI; obtain ⟨⟨iJ0, iJ1, iJ2, iJ3⟩, _, _⟩ := hxJ; obtain ⟨⟨iA0, iA1⟩, _, _⟩ := hxA; obtain ⟨⟨iC0, iC1⟩, _, _⟩ := hxC; obtain ⟨⟨iD0, iD1⟩, _, _⟩ := hxD; go_simp; try (with_reducible rfl))); (try simp only [Act.put, List.getElem_toArray, List.getElem_cons_succ, List.getElem_cons_zero, List.setIfInBounds_toArray, List.set_cons_zero, List.set_cons_succ])
    (refine wpAnyH_take (i := 21) (v := ?_) rfl (by kernel_rfl) (by kernel_rfl) (by kernel_rfl) (fun _ _ _ h => h) (Or.inl ⟨rfl, ?_⟩) (by assumption) ?_; rotate_left; focus (intro W hSw; (try dsimp only at hSw); have hxx := HXX.out _ hSw; obtain ⟨hxM, hxI, hxJ, hxA, hxC, hxD⟩ := hxx; obtain ⟨⟨iM0, iM1, iM2, iM3⟩, _, _⟩ := hxM; obtain ⟨⟨iI0, iI1, iI2, iI3⟩, _, _⟩ := hxI; obtain ⟨⟨iJ0, iJ1, iJ2, iJ3⟩, _, _⟩ := hxJ; obtain ⟨⟨iA0, iA1⟩, _, _⟩ := hxA; obtain ⟨⟨iC0, iC1⟩, _, _⟩ := hxC; obtain ⟨⟨iD0, iD1⟩, _, _⟩ := hxD; go_simp; try (with_reducible rfl))); (try simp only [Act.put, List.getElem_toArray, List.getElem_cons_succ, List.getElem_cons_zero, List.setIfInBounds_toArray, List.set_cons_zero, List.set_cons_succ])
    refine wpAnyH_ready (rs := [20]) (by kernel_rfl) (by simp) ?_; refine AllReadyH.cons rfl (fun K hK => ?_) AllReadyH.nil
    go_simp; (go_at_call 13; refine (I4.out _).mono ?_; rintro en ywr11x0 ⟨rfl, hb2⟩); have HM := Lib.hid (HM.out.below hb2); have HI := Lib.hid (HI.out.below hb2); have HJ := Lib.hid (HJ.out.below hb2); have HA := Lib.hid (HA.out.below hb2); have HC := Lib.hid (HC.out.below hb2); have HD := Lib.hid (HD.out.below hb2); refine hK.out _ _ (below_after hb2 hHeld) (fun hHeld2 => ?_); clear hb2; (clear hHeld; rename _ => hHeld; clear hK K; have hHeld : Below w11.heap.size w11 _ := hHeld); (try simp only [Act.put, List.getElem_toArray, List.getElem_cons_succ, List.getElem_cons_zero, List.setIfInBounds_toArray, List.set_cons_zero, List.set_cons_succ])
    refine wpAnyH_ready (rs := [22]) (by kernel_rfl) (by simp) ?_; refine AllReadyH.cons rfl (fun K hK => ?_) AllReadyH.nil
    go_simp; (go_at_call 14; refine (S4.out _).mono ?_; rintro en ywr11x1 ⟨rfl, hb2⟩); have HM := Lib.hid (HM.out.below hb2); have HI := Lib.hid (HI.out.below hb2); have HJ := Lib.hid (HJ.out.below hb2); have HA := Lib.hid (HA.out.below hb2); have HC := Lib.hid (HC.out.below hb2); have HD := Lib.hid (HD.out.below hb2); refine hK.out _ _ (below_after hb2 hHeld) (fun hHeld2 => ?_); clear hb2; (clear hHeld; rename _ => hHeld; clear hK K; have hHeld : Below w11.heap.size w11 _ := hHeld); (try simp only [Act.put, List.getElem_toArray, List.getElem_cons_succ, List.getElem_cons_zero, List.setIfInBounds_toArray, List.set_cons_zero, List.set_cons_succ])
    (refine wpAnyH_take (i := 23) (v := ?_) rfl (by kernel_rfl) (by kernel_rfl) (by kernel_rfl) (fun _ _ _ h => h) (Or.inl ⟨rfl, ?_⟩) (by assumption) ?_; rotate_left; focus (intro W hSw; (try dsimp only at hSw); have hxx := HXX.out _ hSw; obtain ⟨hxM, hxI, hxJ, hxA, hxC, hxD⟩ := hxx; obtain ⟨⟨iM0, iM1, iM2, iM3⟩, _, _⟩ := hxM; obtain ⟨⟨iI0, iI1, iI2, iI3⟩, _, _⟩ := hxI; obtain ⟨⟨iJ0, iJ1, iJ2, iJ3⟩, _, _⟩ := hxJ; obtain ⟨⟨iA0, iA1⟩, _, _⟩ := hxA; obtain ⟨⟨iC0, iC1⟩, _, _⟩ := hxC; obtain ⟨⟨iD0, iD1⟩, _, _⟩ := hxD; go_simp; try (with_reducible rfl))); (try simp only [Act.put, List.getElem_toArray, List.getElem_cons_succ, List.getElem_cons_zero, List.setIfInBounds_toArray, List.set_cons_zero, List.set_cons_succ])
    (refine wpAnyH_take (i := 24) (v := ?_) rfl (by kernel_rfl) (by kernel_rfl) (by kernel_rfl) (fun _ _ _ h => h) (Or.inl ⟨rfl, ?_⟩) (by assumption) ?_; rotate_left; focus (intro W hSw; (try dsimp only at hSw); have hxx := HXX.out _ hSw; obtain ⟨hxM, hxI, hxJ, hxA, hxC, hxD⟩ := hxx; obtain ⟨⟨iM0, iM1, iM2, iM3⟩, _, _⟩ := hxM; obtain ⟨⟨iI0, iI1, iI2, iI3⟩, _, _⟩ := hxI; obtain ⟨⟨iJ0, iJ1, iJ2, iJ3⟩, _, _⟩ := hxJ; obtain ⟨⟨iA0, iA1⟩, _, _⟩ := hxA; obtain ⟨⟨iC0, iC1⟩, _, _⟩ := hxC; obtain ⟨⟨iD0, iD1⟩, _, _⟩ := hxD; go_simp; try (with_reducible rfl))); (try simp only [Act.put, List.getElem_toArray, List.getElem_cons_succ, List.getElem_cons_zero, List.setIfInBounds_toArray, List.set_cons_zero, List.set_cons_succ])
    refine wpAnyH_done (by kernel_rfl) ?_ _
    have HB := Lib.hid (HB.out.trans (hHeld.mono HB.out.size))
    clear hHeld HXX
    clear I4 S4
    (try simp only [bne_self_eq_false])
    clear HJ
    obtain ⟨⟨qM0, qM1, qM2, qM3⟩, ⟨fM0, fM1, fM2, fM3⟩, zM⟩ := HM.out
    obtain ⟨⟨qI0, qI1, qI2, qI3⟩, ⟨fI0, fI1, fI2, fI3⟩, zI⟩ := HI.out
    obtain ⟨⟨qA0, qA1⟩, ⟨fA0, fA1⟩, zA⟩ := HA.out
    obtain ⟨⟨qC0, qC1⟩, ⟨fC0, fC1⟩, zC⟩ := HC.out
    obtain ⟨⟨qD0, qD1⟩, ⟨fD0, fD1⟩, zD⟩ := HD.out
    go_upto_if 139 with fail
    clear qM0 fM0 qM1 fM1 qM2 fM2 qM3 fM3 zM qI0 fI0 qI1 fI1 qI2 fI2 qI3 fI3 zI qA0 fA0 qA1 fA1 zA qC0 fC0 qC1 fC1 zC qD0 fD0 qD1 fD1 zD
    go_cut [] from 460 (fun wx => Below w.heap.size w wx)
    case first =>
      by_cases hc1 : c1 = 0
      · skip
        subst hc1
        obtain ⟨hm, DD, hD, hd, rfl, rfl, rfl, rfl⟩ := HF1.out rfl
        have him := inv_mx hD hm
        obtain ⟨q1, q2, q3, q4⟩ := inv_unit hD hd
        obtain ⟨U0, U1, U2, U3, c5, i5, s5, f5⟩ := both_MultiplyMatrices p q r t (DD * t) (-DD * q) (-DD * r) (DD * p)
        obtain ⟨rfl, rfl, rfl, rfl, rfl⟩ := f5 hm him (by rw [q1, q2, q3, q4]; exact unit_mx)
        rw [q1, q2, q3, q4] at i5
        have I5 := Lib.hid i5
        have HMX := Lib.hid hm
        have HDX := Lib.hid hD
        have Hd := Lib.hid hd
        have HIM := Lib.hid him
        obtain ⟨X, hX⟩ : ∃ X, DD * t = X := ⟨_, rfl⟩
        obtain ⟨Y, hY⟩ : ∃ X, -DD * q = X := ⟨_, rfl⟩
        obtain ⟨Z, hZ⟩ : ∃ X, -DD * r = X := ⟨_, rfl⟩
        obtain ⟨V, hV⟩ : ∃ X, DD * p = X := ⟨_, rfl⟩
        rw [hX, hY, hZ, hV] at HI I5 HIM I1 S1
        have EX := Lib.hid hX
        have EY := Lib.hid hY
        have EZ := Lib.hid hZ
        have EV := Lib.hid hV
        clear i5 s5 q1 q2 q3 q4 hX hY hZ hV hm hD hd him
        obtain ⟨⟨qM0, qM1, qM2, qM3⟩, ⟨fM0, fM1, fM2, fM3⟩, zM⟩ := HM.out
        obtain ⟨⟨qI0, qI1, qI2, qI3⟩, ⟨fI0, fI1, fI2, fI3⟩, zI⟩ := HI.out
        obtain ⟨⟨qA0, qA1⟩, ⟨fA0, fA1⟩, zA⟩ := HA.out
        obtain ⟨⟨qC0, qC1⟩, ⟨fC0, fC1⟩, zC⟩ := HC.out
        obtain ⟨⟨qD0, qD1⟩, ⟨fD0, fD1⟩, zD⟩ := HD.out
        go_wp2_with fail
        go_at_call 15
        refine (I5.out _).mono ?_
        rintro e w62 ⟨rfl, hb⟩
        clear qM0 fM0 qM1 fM1 qM2 fM2 qM3 fM3 zM qI0 fI0 qI1 fI1 qI2 fI2 qI3 fI3 zI qA0 fA0 qA1 fA1 zA qC0 fC0 qC1 fC1 zC qD0 fD0 qD1 fD1 zD
        have HM := Lib.hid (HM.out.below hb)
        have HI := Lib.hid (HI.out.below hb)
        have HA := Lib.hid (HA.out.below hb)
        have HC := Lib.hid (HC.out.below hb)
        have HD := Lib.hid (HD.out.below hb)
        have HB := Lib.hid (below_after hb HB.out)
        clear hb
        obtain ⟨⟨qM0, qM1, qM2, qM3⟩, ⟨fM0, fM1, fM2, fM3⟩, zM⟩ := HM.out
        obtain ⟨⟨qI0, qI1, qI2, qI3⟩, ⟨fI0, fI1, fI2, fI3⟩, zI⟩ := HI.out
        obtain ⟨⟨qA0, qA1⟩, ⟨fA0, fA1⟩, zA⟩ := HA.out
        obtain ⟨⟨qC0, qC1⟩, ⟨fC0, fC1⟩, zC⟩ := HC.out
        obtain ⟨⟨qD0, qD1⟩, ⟨fD0, fD1⟩, zD⟩ := HD.out
        go_upto_region 13 with fail
        obtain ⟨GU, hGU⟩ : ∃ g, w62.heap.size = g := ⟨_, rfl⟩
        obtain ⟨w63, hw63⟩ : ∃ wx, wx = w62.alloc (.cells #[.int .i64 1, .int .i64 0, .int .i64 0, .int .i64 1] 26) := ⟨_, rfl⟩
        rw [← hw63, hGU]
        have HU : Hid (Bk4 w63 GU 1 0 0 1) := by rw [hw63, ← hGU]; exact bk4_new w62 1 0 0 1 _
        have le_U : w.heap.size ≤ GU := by rw [← hGU]; exact HB.out.size
        have ne_U_M : GU ≠ GM := by have := HM.out.2.2; omega
        have ne_M_U : GM ≠ GU := Ne.symm ne_U_M
        have ne_U_I : GU ≠ GI := by have := HI.out.2.2; omega
        have ne_I_U : GI ≠ GU := Ne.symm ne_U_I
        have ne_U_A : GU ≠ GA := by have := HA.out.2.2; omega
        have ne_A_U : GA ≠ GU := Ne.symm ne_U_A
        have ne_U_C : GU ≠ GC := by have := HC.out.2.2; omega
        have ne_C_U : GC ≠ GU := Ne.symm ne_U_C
        have ne_U_D : GU ≠ GD := by have := HD.out.2.2; omega
        have ne_D_U : GD ≠ GU := Ne.symm ne_U_D
        clear qM0 fM0 qM1 fM1 qM2 fM2 qM3 fM3 zM qI0 fI0 qI1 fI1 qI2 fI2 qI3 fI3 zI qA0 fA0 qA1 fA1 zA qC0 fC0 qC1 fC1 zC qD0 fD0 qD1 fD1 zD
        have HM := Lib.hid (HM.out.below ((Below.refl _ _).alloc (Nat.le_refl _) (.cells #[.int .i64 1, .int .i64 0, .int .i64 0, .int .i64 1] 26)))
        have HI := Lib.hid (HI.out.below ((Below.refl _ _).alloc (Nat.le_refl _) (.cells #[.int .i64 1, .int .i64 0, .int .i64 0, .int .i64 1] 26)))
        have HA := Lib.hid (HA.out.below ((Below.refl _ _).alloc (Nat.le_refl _) (.cells #[.int .i64 1, .int .i64 0, .int .i64 0, .int .i64 1] 26)))
        have HC := Lib.hid (HC.out.below ((Below.refl _ _).alloc (Nat.le_refl _) (.cells #[.int .i64 1, .int .i64 0, .int .i64 0, .int .i64 1] 26)))
        have HD := Lib.hid (HD.out.below ((Below.refl _ _).alloc (Nat.le_refl _) (.cells #[.int .i64 1, .int .i64 0, .int .i64 0, .int .i64 1] 26)))
        have HB := Lib.hid (Below.alloc HB.out HB.out.size (.cells #[.int .i64 1, .int .i64 0, .int .i64 0, .int .i64 1] 26))
        rw [← hw63] at HM HI HA HC HD HB
        clear hw63 hGU
        obtain ⟨d0, d1, k0, i6, s6, g0, -⟩ := both_ApplyMatrix p q r t x0 y0
        have I60 := Lib.hid i6
        have HG0 := Lib.hid g0
        clear i6 s6 g0
        obtain ⟨⟨qM0, qM1, qM2, qM3⟩, ⟨fM0, fM1, fM2, fM3⟩, zM⟩ := HM.out
        obtain ⟨⟨qI0, qI1, qI2, qI3⟩, ⟨fI0, fI1, fI2, fI3⟩, zI⟩ := HI.out
        obtain ⟨⟨qA0, qA1⟩, ⟨fA0, fA1⟩, zA⟩ := HA.out
        obtain ⟨⟨qC0, qC1⟩, ⟨fC0, fC1⟩, zC⟩ := HC.out
        obtain ⟨⟨qD0, qD1⟩, ⟨fD0, fD1⟩, zD⟩ := HD.out
        obtain ⟨⟨qU0, qU1, qU2, qU3⟩, ⟨fU0, fU1, fU2, fU3⟩, zU⟩ := HU.out
        go_wp2_with fail
        go_at_call 16
        refine (I60.out _).mono ?_
        rintro e w64 ⟨rfl, hb⟩
        clear qM0 fM0 qM1 fM1 qM2 fM2 qM3 fM3 zM qI0 fI0 qI1 fI1 qI2 fI2 qI3 fI3 zI qA0 fA0 qA1 fA1 zA qC0 fC0 qC1 fC1 zC qD0 fD0 qD1 fD1 zD qU0 fU0 qU1 fU1 qU2 fU2 qU3 fU3 zU
        have HM := Lib.hid (HM.out.below hb)
        have HI := Lib.hid (HI.out.below hb)
        have HA := Lib.hid (HA.out.below hb)
        have HC := Lib.hid (HC.out.below hb)
        have HD := Lib.hid (HD.out.below hb)
        have HU := Lib.hid (HU.out.below hb)
        have HB := Lib.hid (below_after hb HB.out)
        clear hb
        clear HU
        obtain ⟨⟨qM0, qM1, qM2, qM3⟩, ⟨fM0, fM1, fM2, fM3⟩, zM⟩ := HM.out
        obtain ⟨⟨qI0, qI1, qI2, qI3⟩, ⟨fI0, fI1, fI2, fI3⟩, zI⟩ := HI.out
        obtain ⟨⟨qA0, qA1⟩, ⟨fA0, fA1⟩, zA⟩ := HA.out
        obtain ⟨⟨qC0, qC1⟩, ⟨fC0, fC1⟩, zC⟩ := HC.out
        obtain ⟨⟨qD0, qD1⟩, ⟨fD0, fD1⟩, zD⟩ := HD.out
        go_upto_region 16 with fail
        obtain ⟨GP, hGP⟩ : ∃ g, w64.heap.size = g := ⟨_, rfl⟩
        obtain ⟨w65, hw65⟩ : ∃ wx, wx = w64.alloc (.cells #[.int .i64 d0, .int .i64 d1] 30) := ⟨_, rfl⟩
        rw [← hw65, hGP]
        have HP : Hid (Bk2 w65 GP d0 d1) := by rw [hw65, ← hGP]; exact bk2_new w64 d0 d1 _
        have le_P : w.heap.size ≤ GP := by rw [← hGP]; exact HB.out.size
        have ne_P_M : GP ≠ GM := by have := HM.out.2.2; omega
        have ne_M_P : GM ≠ GP := Ne.symm ne_P_M
        have ne_P_I : GP ≠ GI := by have := HI.out.2.2; omega
        have ne_I_P : GI ≠ GP := Ne.symm ne_P_I
        have ne_P_A : GP ≠ GA := by have := HA.out.2.2; omega
        have ne_A_P : GA ≠ GP := Ne.symm ne_P_A
        have ne_P_C : GP ≠ GC := by have := HC.out.2.2; omega
        have ne_C_P : GC ≠ GP := Ne.symm ne_P_C
        have ne_P_D : GP ≠ GD := by have := HD.out.2.2; omega
        have ne_D_P : GD ≠ GP := Ne.symm ne_P_D
        clear qM0 fM0 qM1 fM1 qM2 fM2 qM3 fM3 zM qI0 fI0 qI1 fI1 qI2 fI2 qI3 fI3 zI qA0 fA0 qA1 fA1 zA qC0 fC0 qC1 fC1 zC qD0 fD0 qD1 fD1 zD
        have HM := Lib.hid (HM.out.below ((Below.refl _ _).alloc (Nat.le_refl _) (.cells #[.int .i64 d0, .int .i64 d1] 30)))
        have HI := Lib.hid (HI.out.below ((Below.refl _ _).alloc (Nat.le_refl _) (.cells #[.int .i64 d0, .int .i64 d1] 30)))
        have HA := Lib.hid (HA.out.below ((Below.refl _ _).alloc (Nat.le_refl _) (.cells #[.int .i64 d0, .int .i64 d1] 30)))
        have HC := Lib.hid (HC.out.below ((Below.refl _ _).alloc (Nat.le_refl _) (.cells #[.int .i64 d0, .int .i64 d1] 30)))
        have HD := Lib.hid (HD.out.below ((Below.refl _ _).alloc (Nat.le_refl _) (.cells #[.int .i64 d0, .int .i64 d1] 30)))
        have HB := Lib.hid (Below.alloc HB.out HB.out.size (.cells #[.int .i64 d0, .int .i64 d1] 30))
        rw [← hw65] at HM HI HA HC HD HB
        clear hw65 hGP
        obtain ⟨ee0, ee1, k1, i6, s6, g1, -⟩ := both_ApplyMatrix p q r t x1 y1
        have I61 := Lib.hid i6
        have HG1 := Lib.hid g1
        clear i6 s6 g1
        obtain ⟨⟨qM0, qM1, qM2, qM3⟩, ⟨fM0, fM1, fM2, fM3⟩, zM⟩ := HM.out
        obtain ⟨⟨qI0, qI1, qI2, qI3⟩, ⟨fI0, fI1, fI2, fI3⟩, zI⟩ := HI.out
        obtain ⟨⟨qA0, qA1⟩, ⟨fA0, fA1⟩, zA⟩ := HA.out
        obtain ⟨⟨qC0, qC1⟩, ⟨fC0, fC1⟩, zC⟩ := HC.out
        obtain ⟨⟨qD0, qD1⟩, ⟨fD0, fD1⟩, zD⟩ := HD.out
        obtain ⟨⟨qP0, qP1⟩, ⟨fP0, fP1⟩, zP⟩ := HP.out
        go_wp2_with fail
        go_at_call 16
        refine (I61.out _).mono ?_
        rintro e w66 ⟨rfl, hb⟩
        clear qM0 fM0 qM1 fM1 qM2 fM2 qM3 fM3 zM qI0 fI0 qI1 fI1 qI2 fI2 qI3 fI3 zI qA0 fA0 qA1 fA1 zA qC0 fC0 qC1 fC1 zC qD0 fD0 qD1 fD1 zD qP0 fP0 qP1 fP1 zP
        have HM := Lib.hid (HM.out.below hb)
        have HI := Lib.hid (HI.out.below hb)
        have HA := Lib.hid (HA.out.below hb)
        have HC := Lib.hid (HC.out.below hb)
        have HD := Lib.hid (HD.out.below hb)
        have HP := Lib.hid (HP.out.below hb)
        have HB := Lib.hid (below_after hb HB.out)
        clear hb
        obtain ⟨⟨qM0, qM1, qM2, qM3⟩, ⟨fM0, fM1, fM2, fM3⟩, zM⟩ := HM.out
        obtain ⟨⟨qI0, qI1, qI2, qI3⟩, ⟨fI0, fI1, fI2, fI3⟩, zI⟩ := HI.out
        obtain ⟨⟨qA0, qA1⟩, ⟨fA0, fA1⟩, zA⟩ := HA.out
        obtain ⟨⟨qC0, qC1⟩, ⟨fC0, fC1⟩, zC⟩ := HC.out
        obtain ⟨⟨qD0, qD1⟩, ⟨fD0, fD1⟩, zD⟩ := HD.out
        obtain ⟨⟨qP0, qP1⟩, ⟨fP0, fP1⟩, zP⟩ := HP.out
        go_upto_region 17 with fail
        obtain ⟨GQ, hGQ⟩ : ∃ g, w66.heap.size = g := ⟨_, rfl⟩
        obtain ⟨w67, hw67⟩ : ∃ wx, wx = w66.alloc (.cells #[.int .i64 ee0, .int .i64 ee1] 30) := ⟨_, rfl⟩
        rw [← hw67, hGQ]
        have HQ : Hid (Bk2 w67 GQ ee0 ee1) := by rw [hw67, ← hGQ]; exact bk2_new w66 ee0 ee1 _
        have le_Q : w.heap.size ≤ GQ := by rw [← hGQ]; exact HB.out.size
        have ne_Q_M : GQ ≠ GM := by have := HM.out.2.2; omega
        have ne_M_Q : GM ≠ GQ := Ne.symm ne_Q_M
        have ne_Q_I : GQ ≠ GI := by have := HI.out.2.2; omega
        have ne_I_Q : GI ≠ GQ := Ne.symm ne_Q_I
        have ne_Q_A : GQ ≠ GA := by have := HA.out.2.2; omega
        have ne_A_Q : GA ≠ GQ := Ne.symm ne_Q_A
        have ne_Q_C : GQ ≠ GC := by have := HC.out.2.2; omega
        have ne_C_Q : GC ≠ GQ := Ne.symm ne_Q_C
        have ne_Q_D : GQ ≠ GD := by have := HD.out.2.2; omega
        have ne_D_Q : GD ≠ GQ := Ne.symm ne_Q_D
        have ne_Q_P : GQ ≠ GP := by have := HP.out.2.2; omega
        have ne_P_Q : GP ≠ GQ := Ne.symm ne_Q_P
        clear qM0 fM0 qM1 fM1 qM2 fM2 qM3 fM3 zM qI0 fI0 qI1 fI1 qI2 fI2 qI3 fI3 zI qA0 fA0 qA1 fA1 zA qC0 fC0 qC1 fC1 zC qD0 fD0 qD1 fD1 zD qP0 fP0 qP1 fP1 zP
        have HM := Lib.hid (HM.out.below ((Below.refl _ _).alloc (Nat.le_refl _) (.cells #[.int .i64 ee0, .int .i64 ee1] 30)))
        have HI := Lib.hid (HI.out.below ((Below.refl _ _).alloc (Nat.le_refl _) (.cells #[.int .i64 ee0, .int .i64 ee1] 30)))
        have HA := Lib.hid (HA.out.below ((Below.refl _ _).alloc (Nat.le_refl _) (.cells #[.int .i64 ee0, .int .i64 ee1] 30)))
        have HC := Lib.hid (HC.out.below ((Below.refl _ _).alloc (Nat.le_refl _) (.cells #[.int .i64 ee0, .int .i64 ee1] 30)))
        have HD := Lib.hid (HD.out.below ((Below.refl _ _).alloc (Nat.le_refl _) (.cells #[.int .i64 ee0, .int .i64 ee1] 30)))
        have HP := Lib.hid (HP.out.below ((Below.refl _ _).alloc (Nat.le_refl _) (.cells #[.int .i64 ee0, .int .i64 ee1] 30)))
        have HB := Lib.hid (Below.alloc HB.out HB.out.size (.cells #[.int .i64 ee0, .int .i64 ee1] 30))
        rw [← hw67] at HM HI HA HC HD HP HB
        clear hw67 hGQ
        obtain ⟨f0, f1, k2, i6, s6, g2, -⟩ := both_ApplyMatrix p q r t x2 y2
        have I62 := Lib.hid i6
        have HG2 := Lib.hid g2
        clear i6 s6 g2
        obtain ⟨⟨qM0, qM1, qM2, qM3⟩, ⟨fM0, fM1, fM2, fM3⟩, zM⟩ := HM.out
        obtain ⟨⟨qI0, qI1, qI2, qI3⟩, ⟨fI0, fI1, fI2, fI3⟩, zI⟩ := HI.out
        obtain ⟨⟨qA0, qA1⟩, ⟨fA0, fA1⟩, zA⟩ := HA.out
        obtain ⟨⟨qC0, qC1⟩, ⟨fC0, fC1⟩, zC⟩ := HC.out
        obtain ⟨⟨qD0, qD1⟩, ⟨fD0, fD1⟩, zD⟩ := HD.out
        obtain ⟨⟨qP0, qP1⟩, ⟨fP0, fP1⟩, zP⟩ := HP.out
        obtain ⟨⟨qQ0, qQ1⟩, ⟨fQ0, fQ1⟩, zQ⟩ := HQ.out
        go_wp2_with fail
        go_at_call 16
        refine (I62.out _).mono ?_
        rintro e w68 ⟨rfl, hb⟩
        clear qM0 fM0 qM1 fM1 qM2 fM2 qM3 fM3 zM qI0 fI0 qI1 fI1 qI2 fI2 qI3 fI3 zI qA0 fA0 qA1 fA1 zA qC0 fC0 qC1 fC1 zC qD0 fD0 qD1 fD1 zD qP0 fP0 qP1 fP1 zP qQ0 fQ0 qQ1 fQ1 zQ
        have HM := Lib.hid (HM.out.below hb)
        have HI := Lib.hid (HI.out.below hb)
        have HA := Lib.hid (HA.out.below hb)
        have HC := Lib.hid (HC.out.below hb)
        have HD := Lib.hid (HD.out.below hb)
        have HP := Lib.hid (HP.out.below hb)
        have HQ := Lib.hid (HQ.out.below hb)
        have HB := Lib.hid (below_after hb HB.out)
        clear hb
        obtain ⟨⟨qM0, qM1, qM2, qM3⟩, ⟨fM0, fM1, fM2, fM3⟩, zM⟩ := HM.out
        obtain ⟨⟨qI0, qI1, qI2, qI3⟩, ⟨fI0, fI1, fI2, fI3⟩, zI⟩ := HI.out
        obtain ⟨⟨qA0, qA1⟩, ⟨fA0, fA1⟩, zA⟩ := HA.out
        obtain ⟨⟨qC0, qC1⟩, ⟨fC0, fC1⟩, zC⟩ := HC.out
        obtain ⟨⟨qD0, qD1⟩, ⟨fD0, fD1⟩, zD⟩ := HD.out
        obtain ⟨⟨qP0, qP1⟩, ⟨fP0, fP1⟩, zP⟩ := HP.out
        obtain ⟨⟨qQ0, qQ1⟩, ⟨fQ0, fQ1⟩, zQ⟩ := HQ.out
        go_upto_region 18 with fail
        obtain ⟨GT, hGT⟩ : ∃ g, w68.heap.size = g := ⟨_, rfl⟩
        obtain ⟨w69, hw69⟩ : ∃ wx, wx = w68.alloc (.cells #[.int .i64 f0, .int .i64 f1] 30) := ⟨_, rfl⟩
        rw [← hw69, hGT]
        have HT : Hid (Bk2 w69 GT f0 f1) := by rw [hw69, ← hGT]; exact bk2_new w68 f0 f1 _
        have le_T : w.heap.size ≤ GT := by rw [← hGT]; exact HB.out.size
        have ne_T_M : GT ≠ GM := by have := HM.out.2.2; omega
        have ne_M_T : GM ≠ GT := Ne.symm ne_T_M
        have ne_T_I : GT ≠ GI := by have := HI.out.2.2; omega
        have ne_I_T : GI ≠ GT := Ne.symm ne_T_I
        have ne_T_A : GT ≠ GA := by have := HA.out.2.2; omega
        have ne_A_T : GA ≠ GT := Ne.symm ne_T_A
        have ne_T_C : GT ≠ GC := by have := HC.out.2.2; omega
        have ne_C_T : GC ≠ GT := Ne.symm ne_T_C
        have ne_T_D : GT ≠ GD := by have := HD.out.2.2; omega
        have ne_D_T : GD ≠ GT := Ne.symm ne_T_D
        have ne_T_P : GT ≠ GP := by have := HP.out.2.2; omega
        have ne_P_T : GP ≠ GT := Ne.symm ne_T_P
        have ne_T_Q : GT ≠ GQ := by have := HQ.out.2.2; omega
        have ne_Q_T : GQ ≠ GT := Ne.symm ne_T_Q
        clear qM0 fM0 qM1 fM1 qM2 fM2 qM3 fM3 zM qI0 fI0 qI1 fI1 qI2 fI2 qI3 fI3 zI qA0 fA0 qA1 fA1 zA qC0 fC0 qC1 fC1 zC qD0 fD0 qD1 fD1 zD qP0 fP0 qP1 fP1 zP qQ0 fQ0 qQ1 fQ1 zQ
        have HM := Lib.hid (HM.out.below ((Below.refl _ _).alloc (Nat.le_refl _) (.cells #[.int .i64 f0, .int .i64 f1] 30)))
        have HI := Lib.hid (HI.out.below ((Below.refl _ _).alloc (Nat.le_refl _) (.cells #[.int .i64 f0, .int .i64 f1] 30)))
        have HA := Lib.hid (HA.out.below ((Below.refl _ _).alloc (Nat.le_refl _) (.cells #[.int .i64 f0, .int .i64 f1] 30)))
        have HC := Lib.hid (HC.out.below ((Below.refl _ _).alloc (Nat.le_refl _) (.cells #[.int .i64 f0, .int .i64 f1] 30)))
        have HD := Lib.hid (HD.out.below ((Below.refl _ _).alloc (Nat.le_refl _) (.cells #[.int .i64 f0, .int .i64 f1] 30)))
        have HP := Lib.hid (HP.out.below ((Below.refl _ _).alloc (Nat.le_refl _) (.cells #[.int .i64 f0, .int .i64 f1] 30)))
        have HQ := Lib.hid (HQ.out.below ((Below.refl _ _).alloc (Nat.le_refl _) (.cells #[.int .i64 f0, .int .i64 f1] 30)))
        have HB := Lib.hid (Below.alloc HB.out HB.out.size (.cells #[.int .i64 f0, .int .i64 f1] 30))
        rw [← hw69] at HM HI HA HC HD HP HQ HB
        clear hw69 hGT
        by_cases hk0 : k0 = 0
        · by_cases hk1 : k1 = 0
          · by_cases hk2 : k2 = 0
            · skip
              subst hk0
              subst hk1
              subst hk2
              obtain ⟨-, ha, hda, e0, e1⟩ := HG0.out rfl
              obtain ⟨-, hb1, hdb, e2, e3⟩ := HG1.out rfl
              obtain ⟨-, hcc, hdc, e4, e5⟩ := HG2.out rfl
              obtain ⟨rfl, harea⟩ := HF3.out (by rw [ha, hb1, hcc]; rfl)
              have hai := area_img HDX.out Hd.out x0 y0 x1 y1 x2 y2
              have hli := len_img HDX.out Hd.out x0 y0 x1 y1
              rw [← e0, ← e1, ← e2, ← e3] at hli
              rw [← e0, ← e1, ← e2, ← e3, ← e4, ← e5, ← harea] at hai
              obtain ⟨v7, c7, i7, s7, f7⟩ := both_AreaOf d0 d1 ee0 ee1 f0 f1
              obtain ⟨rfl, rfl⟩ := f7 (by rw [hda, hdb, hdc]; rfl)
              rw [hai] at i7
              obtain ⟨v8, c8, i8, s8, f8⟩ := both_LengthOf d0 d1 ee0 ee1
              obtain ⟨rfl, rfl⟩ := f8 (by rw [hda, hdb]; rfl)
              rw [hli] at i8
              obtain ⟨v9, c9, i9, s9, f9⟩ := both_LengthOf x0 y0 x1 y1
              obtain ⟨rfl, rfl⟩ := f9 (by rw [ha, hb1]; rfl)
              obtain ⟨b0, b1, c10, i10, s10, g10, f10⟩ := both_ApplyMatrix X Y Z V d0 d1
              obtain ⟨z0, z1⟩ := inv_back HDX.out Hd.out x0 y0
              rw [EX.out, EY.out, ← e0, ← e1] at z0
              rw [EZ.out, EV.out, ← e0, ← e1] at z1
              obtain rfl := f10 HIM.out hda (by rw [z0, z1]; exact ha)
              obtain ⟨-, -, -, rfl, rfl⟩ := g10 rfl
              rw [z0, z1] at i10
              obtain ⟨L, hL⟩ : ∃ L, lenP (x0, y0) (x1, y1) = L := ⟨_, rfl⟩
              rw [hL] at i8 i9
              have I7 := Lib.hid i7
              have I8 := Lib.hid i8
              have I9 := Lib.hid i9
              have I10 := Lib.hid i10
              clear i7 i8 i9 i10 s7 s8 s9 s10 f7 f8 f9 f10 g10 z0 z1 hL hli hai harea ha hb1 hcc hda hdb hdc e0 e1 e2 e3 e4 e5
              obtain ⟨⟨qM0, qM1, qM2, qM3⟩, ⟨fM0, fM1, fM2, fM3⟩, zM⟩ := HM.out
              obtain ⟨⟨qI0, qI1, qI2, qI3⟩, ⟨fI0, fI1, fI2, fI3⟩, zI⟩ := HI.out
              obtain ⟨⟨qA0, qA1⟩, ⟨fA0, fA1⟩, zA⟩ := HA.out
              obtain ⟨⟨qC0, qC1⟩, ⟨fC0, fC1⟩, zC⟩ := HC.out
              obtain ⟨⟨qD0, qD1⟩, ⟨fD0, fD1⟩, zD⟩ := HD.out
              obtain ⟨⟨qP0, qP1⟩, ⟨fP0, fP1⟩, zP⟩ := HP.out
              obtain ⟨⟨qQ0, qQ1⟩, ⟨fQ0, fQ1⟩, zQ⟩ := HQ.out
              obtain ⟨⟨qT0, qT1⟩, ⟨fT0, fT1⟩, zT⟩ := HT.out
              go_wp2_with fail
              go_at_call 11
              refine (I7.out _).mono ?_
              rintro e w70 ⟨rfl, hb⟩
              clear qM0 fM0 qM1 fM1 qM2 fM2 qM3 fM3 zM qI0 fI0 qI1 fI1 qI2 fI2 qI3 fI3 zI qA0 fA0 qA1 fA1 zA qC0 fC0 qC1 fC1 zC qD0 fD0 qD1 fD1 zD qP0 fP0 qP1 fP1 zP qQ0 fQ0 qQ1 fQ1 zQ qT0 fT0 qT1 fT1 zT
              have HM := Lib.hid (HM.out.below hb)
              have HI := Lib.hid (HI.out.below hb)
              have HA := Lib.hid (HA.out.below hb)
              have HC := Lib.hid (HC.out.below hb)
              have HD := Lib.hid (HD.out.below hb)
              have HP := Lib.hid (HP.out.below hb)
              have HQ := Lib.hid (HQ.out.below hb)
              have HT := Lib.hid (HT.out.below hb)
              have HB := Lib.hid (below_after hb HB.out)
              clear hb
              obtain ⟨⟨qM0, qM1, qM2, qM3⟩, ⟨fM0, fM1, fM2, fM3⟩, zM⟩ := HM.out
              obtain ⟨⟨qI0, qI1, qI2, qI3⟩, ⟨fI0, fI1, fI2, fI3⟩, zI⟩ := HI.out
              obtain ⟨⟨qA0, qA1⟩, ⟨fA0, fA1⟩, zA⟩ := HA.out
              obtain ⟨⟨qC0, qC1⟩, ⟨fC0, fC1⟩, zC⟩ := HC.out
              obtain ⟨⟨qD0, qD1⟩, ⟨fD0, fD1⟩, zD⟩ := HD.out
              obtain ⟨⟨qP0, qP1⟩, ⟨fP0, fP1⟩, zP⟩ := HP.out
              obtain ⟨⟨qQ0, qQ1⟩, ⟨fQ0, fQ1⟩, zQ⟩ := HQ.out
              obtain ⟨⟨qT0, qT1⟩, ⟨fT0, fT1⟩, zT⟩ := HT.out
              go_wp2_with fail
              go_at_call 17
              refine (I8.out _).mono ?_
              rintro e w71 ⟨rfl, hb⟩
              clear qM0 fM0 qM1 fM1 qM2 fM2 qM3 fM3 zM qI0 fI0 qI1 fI1 qI2 fI2 qI3 fI3 zI qA0 fA0 qA1 fA1 zA qC0 fC0 qC1 fC1 zC qD0 fD0 qD1 fD1 zD qP0 fP0 qP1 fP1 zP qQ0 fQ0 qQ1 fQ1 zQ qT0 fT0 qT1 fT1 zT
              have HM := Lib.hid (HM.out.below hb)
              have HI := Lib.hid (HI.out.below hb)
              have HA := Lib.hid (HA.out.below hb)
              have HC := Lib.hid (HC.out.below hb)
              have HD := Lib.hid (HD.out.below hb)
              have HP := Lib.hid (HP.out.below hb)
              have HQ := Lib.hid (HQ.out.below hb)
              have HT := Lib.hid (HT.out.below hb)
              have HB := Lib.hid (below_after hb HB.out)
              clear hb
              obtain ⟨⟨qM0, qM1, qM2, qM3⟩, ⟨fM0, fM1, fM2, fM3⟩, zM⟩ := HM.out
              obtain ⟨⟨qI0, qI1, qI2, qI3⟩, ⟨fI0, fI1, fI2, fI3⟩, zI⟩ := HI.out
              obtain ⟨⟨qA0, qA1⟩, ⟨fA0, fA1⟩, zA⟩ := HA.out
              obtain ⟨⟨qC0, qC1⟩, ⟨fC0, fC1⟩, zC⟩ := HC.out
              obtain ⟨⟨qD0, qD1⟩, ⟨fD0, fD1⟩, zD⟩ := HD.out
              obtain ⟨⟨qP0, qP1⟩, ⟨fP0, fP1⟩, zP⟩ := HP.out
              obtain ⟨⟨qQ0, qQ1⟩, ⟨fQ0, fQ1⟩, zQ⟩ := HQ.out
              obtain ⟨⟨qT0, qT1⟩, ⟨fT0, fT1⟩, zT⟩ := HT.out
              go_wp2_with fail
              go_at_call 17
              refine (I9.out _).mono ?_
              rintro e w72 ⟨rfl, hb⟩
              clear qM0 fM0 qM1 fM1 qM2 fM2 qM3 fM3 zM qI0 fI0 qI1 fI1 qI2 fI2 qI3 fI3 zI qA0 fA0 qA1 fA1 zA qC0 fC0 qC1 fC1 zC qD0 fD0 qD1 fD1 zD qP0 fP0 qP1 fP1 zP qQ0 fQ0 qQ1 fQ1 zQ qT0 fT0 qT1 fT1 zT
              have HM := Lib.hid (HM.out.below hb)
              have HI := Lib.hid (HI.out.below hb)
              have HA := Lib.hid (HA.out.below hb)
              have HC := Lib.hid (HC.out.below hb)
              have HD := Lib.hid (HD.out.below hb)
              have HP := Lib.hid (HP.out.below hb)
              have HQ := Lib.hid (HQ.out.below hb)
              have HT := Lib.hid (HT.out.below hb)
              have HB := Lib.hid (below_after hb HB.out)
              clear hb
              obtain ⟨⟨qM0, qM1, qM2, qM3⟩, ⟨fM0, fM1, fM2, fM3⟩, zM⟩ := HM.out
              obtain ⟨⟨qI0, qI1, qI2, qI3⟩, ⟨fI0, fI1, fI2, fI3⟩, zI⟩ := HI.out
              obtain ⟨⟨qA0, qA1⟩, ⟨fA0, fA1⟩, zA⟩ := HA.out
              obtain ⟨⟨qC0, qC1⟩, ⟨fC0, fC1⟩, zC⟩ := HC.out
              obtain ⟨⟨qD0, qD1⟩, ⟨fD0, fD1⟩, zD⟩ := HD.out
              obtain ⟨⟨qP0, qP1⟩, ⟨fP0, fP1⟩, zP⟩ := HP.out
              obtain ⟨⟨qQ0, qQ1⟩, ⟨fQ0, fQ1⟩, zQ⟩ := HQ.out
              obtain ⟨⟨qT0, qT1⟩, ⟨fT0, fT1⟩, zT⟩ := HT.out
              go_wp2_with fail
              go_at_call 16
              refine (I10.out _).mono ?_
              rintro e w73 ⟨rfl, hb⟩
              clear qM0 fM0 qM1 fM1 qM2 fM2 qM3 fM3 zM qI0 fI0 qI1 fI1 qI2 fI2 qI3 fI3 zI qA0 fA0 qA1 fA1 zA qC0 fC0 qC1 fC1 zC qD0 fD0 qD1 fD1 zD qP0 fP0 qP1 fP1 zP qQ0 fQ0 qQ1 fQ1 zQ qT0 fT0 qT1 fT1 zT
              have HM := Lib.hid (HM.out.below hb)
              have HI := Lib.hid (HI.out.below hb)
              have HA := Lib.hid (HA.out.below hb)
              have HC := Lib.hid (HC.out.below hb)
              have HD := Lib.hid (HD.out.below hb)
              have HP := Lib.hid (HP.out.below hb)
              have HQ := Lib.hid (HQ.out.below hb)
              have HT := Lib.hid (HT.out.below hb)
              have HB := Lib.hid (below_after hb HB.out)
              clear hb
              obtain ⟨⟨qM0, qM1, qM2, qM3⟩, ⟨fM0, fM1, fM2, fM3⟩, zM⟩ := HM.out
              obtain ⟨⟨qI0, qI1, qI2, qI3⟩, ⟨fI0, fI1, fI2, fI3⟩, zI⟩ := HI.out
              obtain ⟨⟨qA0, qA1⟩, ⟨fA0, fA1⟩, zA⟩ := HA.out
              obtain ⟨⟨qC0, qC1⟩, ⟨fC0, fC1⟩, zC⟩ := HC.out
              obtain ⟨⟨qD0, qD1⟩, ⟨fD0, fD1⟩, zD⟩ := HD.out
              obtain ⟨⟨qP0, qP1⟩, ⟨fP0, fP1⟩, zP⟩ := HP.out
              obtain ⟨⟨qQ0, qQ1⟩, ⟨fQ0, fQ1⟩, zQ⟩ := HQ.out
              obtain ⟨⟨qT0, qT1⟩, ⟨fT0, fT1⟩, zT⟩ := HT.out
              go_upto_region 23 with fail
              obtain ⟨GW, hGW⟩ : ∃ g, w73.heap.size = g := ⟨_, rfl⟩
              obtain ⟨w74, hw74⟩ : ∃ wx, wx = w73.alloc (.cells #[.int .i64 x0, .int .i64 y0] 30) := ⟨_, rfl⟩
              rw [← hw74, hGW]
              have HW : Hid (Bk2 w74 GW x0 y0) := by rw [hw74, ← hGW]; exact bk2_new w73 x0 y0 _
              have le_W : w.heap.size ≤ GW := by rw [← hGW]; exact HB.out.size
              have ne_W_M : GW ≠ GM := by have := HM.out.2.2; omega
              have ne_M_W : GM ≠ GW := Ne.symm ne_W_M
              have ne_W_I : GW ≠ GI := by have := HI.out.2.2; omega
              have ne_I_W : GI ≠ GW := Ne.symm ne_W_I
              have ne_W_A : GW ≠ GA := by have := HA.out.2.2; omega
              have ne_A_W : GA ≠ GW := Ne.symm ne_W_A
              have ne_W_C : GW ≠ GC := by have := HC.out.2.2; omega
              have ne_C_W : GC ≠ GW := Ne.symm ne_W_C
              have ne_W_D : GW ≠ GD := by have := HD.out.2.2; omega
              have ne_D_W : GD ≠ GW := Ne.symm ne_W_D
              have ne_W_P : GW ≠ GP := by have := HP.out.2.2; omega
              have ne_P_W : GP ≠ GW := Ne.symm ne_W_P
              have ne_W_Q : GW ≠ GQ := by have := HQ.out.2.2; omega
              have ne_Q_W : GQ ≠ GW := Ne.symm ne_W_Q
              have ne_W_T : GW ≠ GT := by have := HT.out.2.2; omega
              have ne_T_W : GT ≠ GW := Ne.symm ne_W_T
              clear qM0 fM0 qM1 fM1 qM2 fM2 qM3 fM3 zM qI0 fI0 qI1 fI1 qI2 fI2 qI3 fI3 zI qA0 fA0 qA1 fA1 zA qC0 fC0 qC1 fC1 zC qD0 fD0 qD1 fD1 zD qP0 fP0 qP1 fP1 zP qQ0 fQ0 qQ1 fQ1 zQ qT0 fT0 qT1 fT1 zT
              have HM := Lib.hid (HM.out.below ((Below.refl _ _).alloc (Nat.le_refl _) (.cells #[.int .i64 x0, .int .i64 y0] 30)))
              have HI := Lib.hid (HI.out.below ((Below.refl _ _).alloc (Nat.le_refl _) (.cells #[.int .i64 x0, .int .i64 y0] 30)))
              have HA := Lib.hid (HA.out.below ((Below.refl _ _).alloc (Nat.le_refl _) (.cells #[.int .i64 x0, .int .i64 y0] 30)))
              have HC := Lib.hid (HC.out.below ((Below.refl _ _).alloc (Nat.le_refl _) (.cells #[.int .i64 x0, .int .i64 y0] 30)))
              have HD := Lib.hid (HD.out.below ((Below.refl _ _).alloc (Nat.le_refl _) (.cells #[.int .i64 x0, .int .i64 y0] 30)))
              have HP := Lib.hid (HP.out.below ((Below.refl _ _).alloc (Nat.le_refl _) (.cells #[.int .i64 x0, .int .i64 y0] 30)))
              have HQ := Lib.hid (HQ.out.below ((Below.refl _ _).alloc (Nat.le_refl _) (.cells #[.int .i64 x0, .int .i64 y0] 30)))
              have HT := Lib.hid (HT.out.below ((Below.refl _ _).alloc (Nat.le_refl _) (.cells #[.int .i64 x0, .int .i64 y0] 30)))
              have HB := Lib.hid (Below.alloc HB.out HB.out.size (.cells #[.int .i64 x0, .int .i64 y0] 30))
              rw [← hw74] at HM HI HA HC HD HP HQ HT HB
              clear hw74 hGW
              obtain ⟨⟨qM0, qM1, qM2, qM3⟩, ⟨fM0, fM1, fM2, fM3⟩, zM⟩ := HM.out
              obtain ⟨⟨qI0, qI1, qI2, qI3⟩, ⟨fI0, fI1, fI2, fI3⟩, zI⟩ := HI.out
              obtain ⟨⟨qA0, qA1⟩, ⟨fA0, fA1⟩, zA⟩ := HA.out
              obtain ⟨⟨qC0, qC1⟩, ⟨fC0, fC1⟩, zC⟩ := HC.out
              obtain ⟨⟨qD0, qD1⟩, ⟨fD0, fD1⟩, zD⟩ := HD.out
              obtain ⟨⟨qP0, qP1⟩, ⟨fP0, fP1⟩, zP⟩ := HP.out
              obtain ⟨⟨qQ0, qQ1⟩, ⟨fQ0, fQ1⟩, zQ⟩ := HQ.out
              obtain ⟨⟨qT0, qT1⟩, ⟨fT0, fT1⟩, zT⟩ := HT.out
              obtain ⟨⟨qW0, qW1⟩, ⟨fW0, fW1⟩, zW⟩ := HW.out
              go_wp2_with fail
              go_meet
              exact HB.out
            · skip
              have hn2 : (k2 == 0) = false := by simp [hk2]
              subst hk0
              subst hk1
              obtain ⟨⟨qM0, qM1, qM2, qM3⟩, ⟨fM0, fM1, fM2, fM3⟩, zM⟩ := HM.out
              obtain ⟨⟨qI0, qI1, qI2, qI3⟩, ⟨fI0, fI1, fI2, fI3⟩, zI⟩ := HI.out
              obtain ⟨⟨qA0, qA1⟩, ⟨fA0, fA1⟩, zA⟩ := HA.out
              obtain ⟨⟨qC0, qC1⟩, ⟨fC0, fC1⟩, zC⟩ := HC.out
              obtain ⟨⟨qD0, qD1⟩, ⟨fD0, fD1⟩, zD⟩ := HD.out
              obtain ⟨⟨qP0, qP1⟩, ⟨fP0, fP1⟩, zP⟩ := HP.out
              obtain ⟨⟨qQ0, qQ1⟩, ⟨fQ0, fQ1⟩, zQ⟩ := HQ.out
              obtain ⟨⟨qT0, qT1⟩, ⟨fT0, fT1⟩, zT⟩ := HT.out
              go_wp2_with fail
              go_meet
              exact HB.out
          · skip
            have hn1 : (k1 == 0) = false := by simp [hk1]
            subst hk0
            obtain ⟨⟨qM0, qM1, qM2, qM3⟩, ⟨fM0, fM1, fM2, fM3⟩, zM⟩ := HM.out
            obtain ⟨⟨qI0, qI1, qI2, qI3⟩, ⟨fI0, fI1, fI2, fI3⟩, zI⟩ := HI.out
            obtain ⟨⟨qA0, qA1⟩, ⟨fA0, fA1⟩, zA⟩ := HA.out
            obtain ⟨⟨qC0, qC1⟩, ⟨fC0, fC1⟩, zC⟩ := HC.out
            obtain ⟨⟨qD0, qD1⟩, ⟨fD0, fD1⟩, zD⟩ := HD.out
            obtain ⟨⟨qP0, qP1⟩, ⟨fP0, fP1⟩, zP⟩ := HP.out
            obtain ⟨⟨qQ0, qQ1⟩, ⟨fQ0, fQ1⟩, zQ⟩ := HQ.out
            obtain ⟨⟨qT0, qT1⟩, ⟨fT0, fT1⟩, zT⟩ := HT.out
            go_wp2_with fail
            go_meet
            exact HB.out
        · skip
          have hn0 : (k0 == 0) = false := by simp [hk0]
          obtain ⟨⟨qM0, qM1, qM2, qM3⟩, ⟨fM0, fM1, fM2, fM3⟩, zM⟩ := HM.out
          obtain ⟨⟨qI0, qI1, qI2, qI3⟩, ⟨fI0, fI1, fI2, fI3⟩, zI⟩ := HI.out
          obtain ⟨⟨qA0, qA1⟩, ⟨fA0, fA1⟩, zA⟩ := HA.out
          obtain ⟨⟨qC0, qC1⟩, ⟨fC0, fC1⟩, zC⟩ := HC.out
          obtain ⟨⟨qD0, qD1⟩, ⟨fD0, fD1⟩, zD⟩ := HD.out
          obtain ⟨⟨qP0, qP1⟩, ⟨fP0, fP1⟩, zP⟩ := HP.out
          obtain ⟨⟨qQ0, qQ1⟩, ⟨fQ0, fQ1⟩, zQ⟩ := HQ.out
          obtain ⟨⟨qT0, qT1⟩, ⟨fT0, fT1⟩, zT⟩ := HT.out
          go_wp2_with fail
          go_meet
          exact HB.out
      · skip
        have hne : (c1 == 0) = false := by simp [hc1]
        obtain ⟨⟨qM0, qM1, qM2, qM3⟩, ⟨fM0, fM1, fM2, fM3⟩, zM⟩ := HM.out
        obtain ⟨⟨qI0, qI1, qI2, qI3⟩, ⟨fI0, fI1, fI2, fI3⟩, zI⟩ := HI.out
        obtain ⟨⟨qA0, qA1⟩, ⟨fA0, fA1⟩, zA⟩ := HA.out
        obtain ⟨⟨qC0, qC1⟩, ⟨fC0, fC1⟩, zC⟩ := HC.out
        obtain ⟨⟨qD0, qD1⟩, ⟨fD0, fD1⟩, zD⟩ := HD.out
        go_wp2_with fail
        go_meet
        exact HB.out
    case rest =>
      have HB := Lib.hid hcut
      clear hcut HM HI HA HC HD
      clear I1 S1 I3 S3 HF1 HF3
      go_wp2_with fail
      go_at_call 18
      refine (CD2.out _ HB.out).mono ?_
      rintro e w162 ⟨a0, b0, rfl, hb⟩
      have HB := Lib.hid (below_after hb HB.out)
      clear hb
      go_upto_region 26 with fail
      obtain ⟨GA, hGA⟩ : ∃ g, w162.heap.size = g := ⟨_, rfl⟩
      obtain ⟨w163, hw163⟩ : ∃ wx, wx = w162.alloc (.cells #[.int .i64 a0, .int .i64 b0] 30) := ⟨_, rfl⟩
      rw [← hw163, hGA]
      have HA : Hid (Bk2 w163 GA a0 b0) := by rw [hw163, ← hGA]; exact bk2_new w162 a0 b0 _
      have le_A : w.heap.size ≤ GA := by rw [← hGA]; exact HB.out.size
      have HB := Lib.hid (Below.alloc HB.out HB.out.size (.cells #[.int .i64 a0, .int .i64 b0] 30))
      rw [← hw163] at HB
      clear hw163 hGA
      obtain ⟨m0, m1, c13, i13, s13, f13⟩ := both_MateOf a0 b0
      have I13 := Lib.hid i13
      have S13 := Lib.hid s13
      have HF13 := Lib.hid f13
      clear f13
      clear i13 s13
      obtain ⟨⟨qA0, qA1⟩, ⟨fA0, fA1⟩, zA⟩ := HA.out
      go_wp2_with fail
      go_at_call 19
      refine (I13.out _).mono ?_
      rintro e w164 ⟨rfl, hb⟩
      clear qA0 fA0 qA1 fA1 zA
      have HA := Lib.hid (HA.out.below hb)
      have HB := Lib.hid (below_after hb HB.out)
      clear hb
      obtain ⟨⟨qA0, qA1⟩, ⟨fA0, fA1⟩, zA⟩ := HA.out
      go_upto_region 27 with fail
      obtain ⟨GN, hGN⟩ : ∃ g, w164.heap.size = g := ⟨_, rfl⟩
      obtain ⟨w165, hw165⟩ : ∃ wx, wx = w164.alloc (.cells #[.int .i64 m0, .int .i64 m1] 30) := ⟨_, rfl⟩
      rw [← hw165, hGN]
      have HN : Hid (Bk2 w165 GN m0 m1) := by rw [hw165, ← hGN]; exact bk2_new w164 m0 m1 _
      have le_N : w.heap.size ≤ GN := by rw [← hGN]; exact HB.out.size
      have ne_N_A : GN ≠ GA := by have := HA.out.2.2; omega
      have ne_A_N : GA ≠ GN := Ne.symm ne_N_A
      clear qA0 fA0 qA1 fA1 zA
      have HA := Lib.hid (HA.out.below ((Below.refl _ _).alloc (Nat.le_refl _) (.cells #[.int .i64 m0, .int .i64 m1] 30)))
      have HB := Lib.hid (Below.alloc HB.out HB.out.size (.cells #[.int .i64 m0, .int .i64 m1] 30))
      rw [← hw165] at HA HB
      clear hw165 hGN
      obtain ⟨⟨qA0, qA1⟩, ⟨fA0, fA1⟩, zA⟩ := HA.out
      obtain ⟨⟨qN0, qN1⟩, ⟨fN0, fN1⟩, zN⟩ := HN.out
      go_wp2_with fail
      go_at_call 20
      refine (S13.out _).mono ?_
      rintro e w166 ⟨rfl, hb⟩
      clear qA0 fA0 qA1 fA1 zA qN0 fN0 qN1 fN1 zN
      have HA := Lib.hid (HA.out.below hb)
      have HN := Lib.hid (HN.out.below hb)
      have HB := Lib.hid (below_after hb HB.out)
      clear hb
      obtain ⟨⟨qA0, qA1⟩, ⟨fA0, fA1⟩, zA⟩ := HA.out
      obtain ⟨⟨qN0, qN1⟩, ⟨fN0, fN1⟩, zN⟩ := HN.out
      go_upto_region 28 with fail
      obtain ⟨GO, hGO⟩ : ∃ g, w166.heap.size = g := ⟨_, rfl⟩
      obtain ⟨w167, hw167⟩ : ∃ wx, wx = w166.alloc (.cells #[.int .i64 m0, .int .i64 m1] 30) := ⟨_, rfl⟩
      rw [← hw167, hGO]
      have HO : Hid (Bk2 w167 GO m0 m1) := by rw [hw167, ← hGO]; exact bk2_new w166 m0 m1 _
      have le_O : w.heap.size ≤ GO := by rw [← hGO]; exact HB.out.size
      have ne_O_A : GO ≠ GA := by have := HA.out.2.2; omega
      have ne_A_O : GA ≠ GO := Ne.symm ne_O_A
      have ne_O_N : GO ≠ GN := by have := HN.out.2.2; omega
      have ne_N_O : GN ≠ GO := Ne.symm ne_O_N
      clear qA0 fA0 qA1 fA1 zA qN0 fN0 qN1 fN1 zN
      have HA := Lib.hid (HA.out.below ((Below.refl _ _).alloc (Nat.le_refl _) (.cells #[.int .i64 m0, .int .i64 m1] 30)))
      have HN := Lib.hid (HN.out.below ((Below.refl _ _).alloc (Nat.le_refl _) (.cells #[.int .i64 m0, .int .i64 m1] 30)))
      have HB := Lib.hid (Below.alloc HB.out HB.out.size (.cells #[.int .i64 m0, .int .i64 m1] 30))
      rw [← hw167] at HA HN HB
      clear hw167 hGO
      obtain ⟨⟨qA0, qA1⟩, ⟨fA0, fA1⟩, zA⟩ := HA.out
      obtain ⟨⟨qN0, qN1⟩, ⟨fN0, fN1⟩, zN⟩ := HN.out
      obtain ⟨⟨qO0, qO1⟩, ⟨fO0, fO1⟩, zO⟩ := HO.out
      go_upto_if 258 with fail
      clear qA0 fA0 qA1 fA1 zA qN0 fN0 qN1 fN1 zN qO0 fO0 qO1 fO1 zO
      go_cut [] from 460 (fun wx => Below w.heap.size w wx)
      case first =>
        clear HO
        by_cases hc13 : c13 = 0
        · skip
          subst hc13
          obtain ⟨k1, k2, k3⟩ := HF13.out rfl
          have i7 := fun w => impl_DeterminantOf_yes a0 b0 m0 m1 w k1 k2
          simp only [k3] at i7
          have I7 := Lib.hid i7
          clear i7 k1 k2 k3
          obtain ⟨⟨qA0, qA1⟩, ⟨fA0, fA1⟩, zA⟩ := HA.out
          obtain ⟨⟨qN0, qN1⟩, ⟨fN0, fN1⟩, zN⟩ := HN.out
          go_wp2_with fail
          go_at_call 21
          refine (I7.out _).mono ?_
          rintro e w168 ⟨rfl, hb⟩
          clear qA0 fA0 qA1 fA1 zA qN0 fN0 qN1 fN1 zN
          have HA := Lib.hid (HA.out.below hb)
          have HN := Lib.hid (HN.out.below hb)
          have HB := Lib.hid (below_after hb HB.out)
          clear hb
          obtain ⟨⟨qA0, qA1⟩, ⟨fA0, fA1⟩, zA⟩ := HA.out
          obtain ⟨⟨qN0, qN1⟩, ⟨fN0, fN1⟩, zN⟩ := HN.out
          go_wp2_with fail
          go_meet
          exact HB.out
        · skip
          have hne : (c13 == 0) = false := by simp [hc13]
          obtain ⟨⟨qA0, qA1⟩, ⟨fA0, fA1⟩, zA⟩ := HA.out
          obtain ⟨⟨qN0, qN1⟩, ⟨fN0, fN1⟩, zN⟩ := HN.out
          go_wp2_with fail
          go_meet
          exact HB.out
      case rest =>
        have HB := Lib.hid hcut
        clear hcut HA HN HO
        clear I13 S13 HF13
        go_wp2_with fail
        go_at_call 22
        refine (CD3.out _ HB.out).mono ?_
        rintro e w268 ⟨x0, y0, x1, y1, x2, y2, rfl, hb⟩
        have HB := Lib.hid (below_after hb HB.out)
        clear hb
        go_upto_region 35 with fail
        obtain ⟨w269, hw269⟩ : ∃ wx, wx = ((w268.alloc (.cells #[.int .i64 x0, .int .i64 y0] 30)).alloc (.cells #[.int .i64 x1, .int .i64 y1] 30)).alloc (.cells #[.int .i64 x2, .int .i64 y2] 30) := ⟨_, rfl⟩
        rw [← hw269]
        obtain ⟨GA, hGA⟩ : ∃ g, w268.heap.size = g := ⟨_, rfl⟩
        have HA : Hid (Bk2 w269 GA x0 y0) := by
          have h := (bk2_new w268 x0 y0 30).below (W' := w269) (by rw [hw269]; (repeat' (first | (with_reducible exact Below.refl _ _) | (with_reducible refine Below.alloc ?_ ?_ _) | (with_reducible refine Below.setCell ?_ ?_ _) | (with_reducible refine Below.drew ?_) | (with_reducible refine below_drewN ?_ _) | (with_reducible assumption) | (with_reducible refine below_after (by with_reducible assumption) ?_) | go_size)))
          (try simp only [World.size_alloc] at h)
          rw [hGA] at h
          exact h
        have le_A : w.heap.size ≤ GA := by have := HB.out.size; omega
        obtain ⟨GC, hGC⟩ : ∃ g, w268.heap.size + 1 = g := ⟨_, rfl⟩
        have HC : Hid (Bk2 w269 GC x1 y1) := by
          have h := (bk2_new (w268.alloc (.cells #[.int .i64 x0, .int .i64 y0] 30)) x1 y1 30).below (W' := w269) (by rw [hw269]; (repeat' (first | (with_reducible exact Below.refl _ _) | (with_reducible refine Below.alloc ?_ ?_ _) | (with_reducible refine Below.setCell ?_ ?_ _) | (with_reducible refine Below.drew ?_) | (with_reducible refine below_drewN ?_ _) | (with_reducible assumption) | (with_reducible refine below_after (by with_reducible assumption) ?_) | go_size)))
          (try simp only [World.size_alloc] at h)
          rw [hGC] at h
          exact h
        have le_C : w.heap.size ≤ GC := by have := HB.out.size; omega
        have ne_C_A : GC ≠ GA := by omega
        have ne_A_C : GA ≠ GC := Ne.symm ne_C_A
        obtain ⟨GD, hGD⟩ : ∃ g, w268.heap.size + 1 + 1 = g := ⟨_, rfl⟩
        have HD : Hid (Bk2 w269 GD x2 y2) := by
          have h := (bk2_new ((w268.alloc (.cells #[.int .i64 x0, .int .i64 y0] 30)).alloc (.cells #[.int .i64 x1, .int .i64 y1] 30)) x2 y2 30).below (W' := w269) (by rw [hw269]; (repeat' (first | (with_reducible exact Below.refl _ _) | (with_reducible refine Below.alloc ?_ ?_ _) | (with_reducible refine Below.setCell ?_ ?_ _) | (with_reducible refine Below.drew ?_) | (with_reducible refine below_drewN ?_ _) | (with_reducible assumption) | (with_reducible refine below_after (by with_reducible assumption) ?_) | go_size)))
          (try simp only [World.size_alloc] at h)
          rw [hGD] at h
          exact h
        have le_D : w.heap.size ≤ GD := by have := HB.out.size; omega
        have ne_D_A : GD ≠ GA := by omega
        have ne_A_D : GA ≠ GD := Ne.symm ne_D_A
        have ne_D_C : GD ≠ GC := by omega
        have ne_C_D : GC ≠ GD := Ne.symm ne_D_C
        have hbn : Below w268.heap.size w268 w269 := by rw [hw269]; (repeat' (first | (with_reducible exact Below.refl _ _) | (with_reducible refine Below.alloc ?_ ?_ _) | (with_reducible refine Below.setCell ?_ ?_ _) | (with_reducible refine Below.drew ?_) | (with_reducible refine below_drewN ?_ _) | (with_reducible assumption) | (with_reducible refine below_after (by with_reducible assumption) ?_) | go_size))
        have HB := Lib.hid (below_after hbn HB.out)
        clear hbn
        rw [hGA] at hGC
        rw [hGA] at hGD
        rw [hGC] at hGD
        simp only [hGA]
        simp only [hGC]
        simp only [hGD]
        clear hw269 hGA hGC hGD
        obtain ⟨fr, c16, i16, s16, f16⟩ := both_DistanceOf x0 y0 x1 y1 x2 y2
        have I16 := Lib.hid i16
        have S16 := Lib.hid s16
        have HF16 := Lib.hid f16
        clear f16
        clear i16 s16
        obtain ⟨⟨qA0, qA1⟩, ⟨fA0, fA1⟩, zA⟩ := HA.out
        obtain ⟨⟨qC0, qC1⟩, ⟨fC0, fC1⟩, zC⟩ := HC.out
        obtain ⟨⟨qD0, qD1⟩, ⟨fD0, fD1⟩, zD⟩ := HD.out
        go_wp2_with fail
        go_at_call 23
        refine (I16.out _).mono ?_
        rintro e w270 ⟨rfl, hb⟩
        clear qA0 fA0 qA1 fA1 zA qC0 fC0 qC1 fC1 zC qD0 fD0 qD1 fD1 zD
        have HA := Lib.hid (HA.out.below hb)
        have HC := Lib.hid (HC.out.below hb)
        have HD := Lib.hid (HD.out.below hb)
        have HB := Lib.hid (below_after hb HB.out)
        clear hb
        obtain ⟨⟨qA0, qA1⟩, ⟨fA0, fA1⟩, zA⟩ := HA.out
        obtain ⟨⟨qC0, qC1⟩, ⟨fC0, fC1⟩, zC⟩ := HC.out
        obtain ⟨⟨qD0, qD1⟩, ⟨fD0, fD1⟩, zD⟩ := HD.out
        go_wp2_with fail
        go_at_call 24
        refine (S16.out _).mono ?_
        rintro e w271 ⟨rfl, hb⟩
        clear qA0 fA0 qA1 fA1 zA qC0 fC0 qC1 fC1 zC qD0 fD0 qD1 fD1 zD
        have HA := Lib.hid (HA.out.below hb)
        have HC := Lib.hid (HC.out.below hb)
        have HD := Lib.hid (HD.out.below hb)
        have HB := Lib.hid (below_after hb HB.out)
        clear hb
        obtain ⟨⟨qA0, qA1⟩, ⟨fA0, fA1⟩, zA⟩ := HA.out
        obtain ⟨⟨qC0, qC1⟩, ⟨fC0, fC1⟩, zC⟩ := HC.out
        obtain ⟨⟨qD0, qD1⟩, ⟨fD0, fD1⟩, zD⟩ := HD.out
        go_upto_if 300 with fail
        clear qA0 fA0 qA1 fA1 zA qC0 fC0 qC1 fC1 zC qD0 fD0 qD1 fD1 zD
        go_cut [] from 460 (fun wx => Below w.heap.size w wx)
        case first =>
          by_cases hc16 : c16 = 0
          · skip
            subst hc16
            obtain ⟨k1, k2, rfl⟩ := HF16.out rfl
            have k3 := k1
            simp only [Bool.and_eq_true] at k3
            have hdl := dist_len k3.1.1 k3.1.2 k3.2 k2
            have hab := area_bd k3.1.1 k3.1.2 k3.2
            obtain ⟨v7, c7, i7, s7, f7⟩ := both_LengthOf x0 y0 x1 y1
            obtain ⟨rfl, rfl⟩ := f7 (by rw [k3.1.1, k3.1.2]; rfl)
            obtain ⟨v8, c8, i8, s8, f8⟩ := both_AreaOf x0 y0 x1 y1 x2 y2
            obtain ⟨rfl, rfl⟩ := f8 k1
            have I7 := Lib.hid i7
            have I8 := Lib.hid i8
            clear i7 s7 f7 i8 s8 f8 k1 k2 k3
            generalize lenP (x0, y0) (x1, y1) = L at *
            generalize areaP (x0, y0) (x1, y1) (x2, y2) = A at *
            generalize IntKind.i64.wrap (A.tdiv L) = Q at *
            have HDL := Lib.hid hdl
            have HAB := Lib.hid hab
            clear hdl hab
            obtain ⟨⟨qA0, qA1⟩, ⟨fA0, fA1⟩, zA⟩ := HA.out
            obtain ⟨⟨qC0, qC1⟩, ⟨fC0, fC1⟩, zC⟩ := HC.out
            obtain ⟨⟨qD0, qD1⟩, ⟨fD0, fD1⟩, zD⟩ := HD.out
            go_wp2_with fail
            go_at_call 17
            refine (I7.out _).mono ?_
            rintro e w272 ⟨rfl, hb⟩
            clear qA0 fA0 qA1 fA1 zA qC0 fC0 qC1 fC1 zC qD0 fD0 qD1 fD1 zD
            have HA := Lib.hid (HA.out.below hb)
            have HC := Lib.hid (HC.out.below hb)
            have HD := Lib.hid (HD.out.below hb)
            have HB := Lib.hid (below_after hb HB.out)
            clear hb
            obtain ⟨⟨qA0, qA1⟩, ⟨fA0, fA1⟩, zA⟩ := HA.out
            obtain ⟨⟨qC0, qC1⟩, ⟨fC0, fC1⟩, zC⟩ := HC.out
            obtain ⟨⟨qD0, qD1⟩, ⟨fD0, fD1⟩, zD⟩ := HD.out
            go_wp2_with fail
            go_at_call 11
            refine (I8.out _).mono ?_
            rintro e w273 ⟨rfl, hb⟩
            clear qA0 fA0 qA1 fA1 zA qC0 fC0 qC1 fC1 zC qD0 fD0 qD1 fD1 zD
            have HA := Lib.hid (HA.out.below hb)
            have HC := Lib.hid (HC.out.below hb)
            have HD := Lib.hid (HD.out.below hb)
            have HB := Lib.hid (below_after hb HB.out)
            clear hb
            have hdl := HDL.out
            have hdw : wrap64 A = A := IntWalk.wrap64_in _ ⟨by have := HAB.out; omega, by have := HAB.out; omega⟩
            have hdw2 : IntKind.i64.wrap A = A := by have := HAB.out; rw [IntKind.wrap_i64]; omega
            obtain ⟨⟨qA0, qA1⟩, ⟨fA0, fA1⟩, zA⟩ := HA.out
            obtain ⟨⟨qC0, qC1⟩, ⟨fC0, fC1⟩, zC⟩ := HC.out
            obtain ⟨⟨qD0, qD1⟩, ⟨fD0, fD1⟩, zD⟩ := HD.out
            go_wp2_with fail
            go_meet
            exact HB.out
          · skip
            have hne : (c16 == 0) = false := by simp [hc16]
            obtain ⟨⟨qA0, qA1⟩, ⟨fA0, fA1⟩, zA⟩ := HA.out
            obtain ⟨⟨qC0, qC1⟩, ⟨fC0, fC1⟩, zC⟩ := HC.out
            obtain ⟨⟨qD0, qD1⟩, ⟨fD0, fD1⟩, zD⟩ := HD.out
            go_wp2_with fail
            go_meet
            exact HB.out
        case rest =>
          have HB := Lib.hid hcut
          clear hcut HA HC HD
          clear I16 S16 HF16
          go_wp2_with fail
          go_at_call 25
          refine (CD4.out _ HB.out).mono ?_
          rintro e w372 ⟨x0, y0, rfl, hb⟩
          have HB := Lib.hid (below_after hb HB.out)
          clear hb
          go_upto_region 45 with fail
          obtain ⟨GA, hGA⟩ : ∃ g, w372.heap.size = g := ⟨_, rfl⟩
          obtain ⟨w373, hw373⟩ : ∃ wx, wx = w372.alloc (.cells #[.int .i64 x0, .int .i64 y0] 30) := ⟨_, rfl⟩
          rw [← hw373, hGA]
          have HA : Hid (Bk2 w373 GA x0 y0) := by rw [hw373, ← hGA]; exact bk2_new w372 x0 y0 _
          have le_A : w.heap.size ≤ GA := by rw [← hGA]; exact HB.out.size
          have HB := Lib.hid (Below.alloc HB.out HB.out.size (.cells #[.int .i64 x0, .int .i64 y0] 30))
          rw [← hw373] at HB
          clear hw373 hGA
          obtain ⟨r0, r1, d1, i17, s17⟩ := both_PrimitiveOf x0 y0
          have I17 := Lib.hid i17
          have S17 := Lib.hid s17
          clear i17 s17
          obtain ⟨⟨qA0, qA1⟩, ⟨fA0, fA1⟩, zA⟩ := HA.out
          go_wp2_with fail
          go_at_call 26
          refine (I17.out _).mono ?_
          rintro e w374 ⟨rfl, hb⟩
          clear qA0 fA0 qA1 fA1 zA
          have HA := Lib.hid (HA.out.below hb)
          have HB := Lib.hid (below_after hb HB.out)
          clear hb
          obtain ⟨⟨qA0, qA1⟩, ⟨fA0, fA1⟩, zA⟩ := HA.out
          go_upto_region 46 with fail
          obtain ⟨GE, hGE⟩ : ∃ g, w374.heap.size = g := ⟨_, rfl⟩
          obtain ⟨w375, hw375⟩ : ∃ wx, wx = w374.alloc (.cells #[.int .i64 r0, .int .i64 r1] 30) := ⟨_, rfl⟩
          rw [← hw375, hGE]
          have HE : Hid (Bk2 w375 GE r0 r1) := by rw [hw375, ← hGE]; exact bk2_new w374 r0 r1 _
          have le_E : w.heap.size ≤ GE := by rw [← hGE]; exact HB.out.size
          have ne_E_A : GE ≠ GA := by have := HA.out.2.2; omega
          have ne_A_E : GA ≠ GE := Ne.symm ne_E_A
          clear qA0 fA0 qA1 fA1 zA
          have HA := Lib.hid (HA.out.below ((Below.refl _ _).alloc (Nat.le_refl _) (.cells #[.int .i64 r0, .int .i64 r1] 30)))
          have HB := Lib.hid (Below.alloc HB.out HB.out.size (.cells #[.int .i64 r0, .int .i64 r1] 30))
          rw [← hw375] at HA HB
          clear hw375 hGE
          obtain ⟨⟨qA0, qA1⟩, ⟨fA0, fA1⟩, zA⟩ := HA.out
          obtain ⟨⟨qE0, qE1⟩, ⟨fE0, fE1⟩, zE⟩ := HE.out
          go_wp2_with fail
          go_at_call 27
          refine (S17.out _).mono ?_
          rintro e w376 ⟨rfl, hb⟩
          clear qA0 fA0 qA1 fA1 zA qE0 fE0 qE1 fE1 zE
          have HA := Lib.hid (HA.out.below hb)
          have HE := Lib.hid (HE.out.below hb)
          have HB := Lib.hid (below_after hb HB.out)
          clear hb
          obtain ⟨⟨qA0, qA1⟩, ⟨fA0, fA1⟩, zA⟩ := HA.out
          obtain ⟨⟨qE0, qE1⟩, ⟨fE0, fE1⟩, zE⟩ := HE.out
          go_upto_region 47 with fail
          obtain ⟨GF, hGF⟩ : ∃ g, w376.heap.size = g := ⟨_, rfl⟩
          obtain ⟨w377, hw377⟩ : ∃ wx, wx = w376.alloc (.cells #[.int .i64 r0, .int .i64 r1] 30) := ⟨_, rfl⟩
          rw [← hw377, hGF]
          have HF : Hid (Bk2 w377 GF r0 r1) := by rw [hw377, ← hGF]; exact bk2_new w376 r0 r1 _
          have le_F : w.heap.size ≤ GF := by rw [← hGF]; exact HB.out.size
          have ne_F_A : GF ≠ GA := by have := HA.out.2.2; omega
          have ne_A_F : GA ≠ GF := Ne.symm ne_F_A
          have ne_F_E : GF ≠ GE := by have := HE.out.2.2; omega
          have ne_E_F : GE ≠ GF := Ne.symm ne_F_E
          clear qA0 fA0 qA1 fA1 zA qE0 fE0 qE1 fE1 zE
          have HA := Lib.hid (HA.out.below ((Below.refl _ _).alloc (Nat.le_refl _) (.cells #[.int .i64 r0, .int .i64 r1] 30)))
          have HE := Lib.hid (HE.out.below ((Below.refl _ _).alloc (Nat.le_refl _) (.cells #[.int .i64 r0, .int .i64 r1] 30)))
          have HB := Lib.hid (Below.alloc HB.out HB.out.size (.cells #[.int .i64 r0, .int .i64 r1] 30))
          rw [← hw377] at HA HE HB
          clear hw377 hGF
          clear HA
          obtain ⟨⟨qE0, qE1⟩, ⟨fE0, fE1⟩, zE⟩ := HE.out
          obtain ⟨⟨qF0, qF1⟩, ⟨fF0, fF1⟩, zF⟩ := HF.out
          go_wp2_with fail
          go_at_call 28
          refine (CD5.out _ HB.out).mono ?_
          rintro e w378 ⟨x1, y1, x2, y2, kk, -, rfl, hb⟩
          clear qE0 fE0 qE1 fE1 zE qF0 fF0 qF1 fF1 zF
          have HE := Lib.hid (HE.out.below hb)
          have HF := Lib.hid (HF.out.below hb)
          have HB := Lib.hid (below_after hb HB.out)
          clear hb
          obtain ⟨⟨qE0, qE1⟩, ⟨fE0, fE1⟩, zE⟩ := HE.out
          obtain ⟨⟨qF0, qF1⟩, ⟨fF0, fF1⟩, zF⟩ := HF.out
          go_upto_region 48 with fail
          obtain ⟨w379, hw379⟩ : ∃ wx, wx = (w378.alloc (.cells #[.int .i64 x1, .int .i64 y1] 30)).alloc (.cells #[.int .i64 x2, .int .i64 y2] 30) := ⟨_, rfl⟩
          rw [← hw379]
          obtain ⟨GA, hGA⟩ : ∃ g, w378.heap.size = g := ⟨_, rfl⟩
          have HA : Hid (Bk2 w379 GA x1 y1) := by
            have h := (bk2_new w378 x1 y1 30).below (W' := w379) (by rw [hw379]; (repeat' (first | (with_reducible exact Below.refl _ _) | (with_reducible refine Below.alloc ?_ ?_ _) | (with_reducible refine Below.setCell ?_ ?_ _) | (with_reducible refine Below.drew ?_) | (with_reducible refine below_drewN ?_ _) | (with_reducible assumption) | (with_reducible refine below_after (by with_reducible assumption) ?_) | go_size)))
            (try simp only [World.size_alloc] at h)
            rw [hGA] at h
            exact h
          have le_A : w.heap.size ≤ GA := by have := HB.out.size; omega
          have ne_A_E : GA ≠ GE := by have := HE.out.2.2; omega
          have ne_E_A : GE ≠ GA := Ne.symm ne_A_E
          have ne_A_F : GA ≠ GF := by have := HF.out.2.2; omega
          have ne_F_A : GF ≠ GA := Ne.symm ne_A_F
          obtain ⟨GC, hGC⟩ : ∃ g, w378.heap.size + 1 = g := ⟨_, rfl⟩
          have HC : Hid (Bk2 w379 GC x2 y2) := by
            have h := (bk2_new (w378.alloc (.cells #[.int .i64 x1, .int .i64 y1] 30)) x2 y2 30).below (W' := w379) (by rw [hw379]; (repeat' (first | (with_reducible exact Below.refl _ _) | (with_reducible refine Below.alloc ?_ ?_ _) | (with_reducible refine Below.setCell ?_ ?_ _) | (with_reducible refine Below.drew ?_) | (with_reducible refine below_drewN ?_ _) | (with_reducible assumption) | (with_reducible refine below_after (by with_reducible assumption) ?_) | go_size)))
            (try simp only [World.size_alloc] at h)
            rw [hGC] at h
            exact h
          have le_C : w.heap.size ≤ GC := by have := HB.out.size; omega
          have ne_C_E : GC ≠ GE := by have := HE.out.2.2; omega
          have ne_E_C : GE ≠ GC := Ne.symm ne_C_E
          have ne_C_F : GC ≠ GF := by have := HF.out.2.2; omega
          have ne_F_C : GF ≠ GC := Ne.symm ne_C_F
          have ne_C_A : GC ≠ GA := by omega
          have ne_A_C : GA ≠ GC := Ne.symm ne_C_A
          clear qE0 fE0 qE1 fE1 zE qF0 fF0 qF1 fF1 zF
          have hbn : Below w378.heap.size w378 w379 := by rw [hw379]; (repeat' (first | (with_reducible exact Below.refl _ _) | (with_reducible refine Below.alloc ?_ ?_ _) | (with_reducible refine Below.setCell ?_ ?_ _) | (with_reducible refine Below.drew ?_) | (with_reducible refine below_drewN ?_ _) | (with_reducible assumption) | (with_reducible refine below_after (by with_reducible assumption) ?_) | go_size))
          have HE := Lib.hid (HE.out.below hbn)
          have HF := Lib.hid (HF.out.below hbn)
          have HB := Lib.hid (below_after hbn HB.out)
          clear hbn
          rw [hGA] at hGC
          simp only [hGA]
          simp only [hGC]
          clear hw379 hGA hGC
          obtain ⟨s0, s1, d2, i18, s18⟩ := both_AddPoints x1 y1 x2 y2 kk
          have I18 := Lib.hid i18
          have S18 := Lib.hid s18
          clear i18 s18
          obtain ⟨⟨qE0, qE1⟩, ⟨fE0, fE1⟩, zE⟩ := HE.out
          obtain ⟨⟨qF0, qF1⟩, ⟨fF0, fF1⟩, zF⟩ := HF.out
          obtain ⟨⟨qA0, qA1⟩, ⟨fA0, fA1⟩, zA⟩ := HA.out
          obtain ⟨⟨qC0, qC1⟩, ⟨fC0, fC1⟩, zC⟩ := HC.out
          go_wp2_with fail
          go_at_call 29
          refine (I18.out _).mono ?_
          rintro e w380 ⟨rfl, hb⟩
          clear qE0 fE0 qE1 fE1 zE qF0 fF0 qF1 fF1 zF qA0 fA0 qA1 fA1 zA qC0 fC0 qC1 fC1 zC
          have HE := Lib.hid (HE.out.below hb)
          have HF := Lib.hid (HF.out.below hb)
          have HA := Lib.hid (HA.out.below hb)
          have HC := Lib.hid (HC.out.below hb)
          have HB := Lib.hid (below_after hb HB.out)
          clear hb
          obtain ⟨⟨qE0, qE1⟩, ⟨fE0, fE1⟩, zE⟩ := HE.out
          obtain ⟨⟨qF0, qF1⟩, ⟨fF0, fF1⟩, zF⟩ := HF.out
          obtain ⟨⟨qA0, qA1⟩, ⟨fA0, fA1⟩, zA⟩ := HA.out
          obtain ⟨⟨qC0, qC1⟩, ⟨fC0, fC1⟩, zC⟩ := HC.out
          go_upto_region 49 with fail
          obtain ⟨GG, hGG⟩ : ∃ g, w380.heap.size = g := ⟨_, rfl⟩
          obtain ⟨w381, hw381⟩ : ∃ wx, wx = w380.alloc (.cells #[.int .i64 s0, .int .i64 s1] 30) := ⟨_, rfl⟩
          rw [← hw381, hGG]
          have HG : Hid (Bk2 w381 GG s0 s1) := by rw [hw381, ← hGG]; exact bk2_new w380 s0 s1 _
          have le_G : w.heap.size ≤ GG := by rw [← hGG]; exact HB.out.size
          have ne_G_E : GG ≠ GE := by have := HE.out.2.2; omega
          have ne_E_G : GE ≠ GG := Ne.symm ne_G_E
          have ne_G_F : GG ≠ GF := by have := HF.out.2.2; omega
          have ne_F_G : GF ≠ GG := Ne.symm ne_G_F
          have ne_G_A : GG ≠ GA := by have := HA.out.2.2; omega
          have ne_A_G : GA ≠ GG := Ne.symm ne_G_A
          have ne_G_C : GG ≠ GC := by have := HC.out.2.2; omega
          have ne_C_G : GC ≠ GG := Ne.symm ne_G_C
          clear qE0 fE0 qE1 fE1 zE qF0 fF0 qF1 fF1 zF qA0 fA0 qA1 fA1 zA qC0 fC0 qC1 fC1 zC
          have HE := Lib.hid (HE.out.below ((Below.refl _ _).alloc (Nat.le_refl _) (.cells #[.int .i64 s0, .int .i64 s1] 30)))
          have HF := Lib.hid (HF.out.below ((Below.refl _ _).alloc (Nat.le_refl _) (.cells #[.int .i64 s0, .int .i64 s1] 30)))
          have HA := Lib.hid (HA.out.below ((Below.refl _ _).alloc (Nat.le_refl _) (.cells #[.int .i64 s0, .int .i64 s1] 30)))
          have HC := Lib.hid (HC.out.below ((Below.refl _ _).alloc (Nat.le_refl _) (.cells #[.int .i64 s0, .int .i64 s1] 30)))
          have HB := Lib.hid (Below.alloc HB.out HB.out.size (.cells #[.int .i64 s0, .int .i64 s1] 30))
          rw [← hw381] at HE HF HA HC HB
          clear hw381 hGG
          obtain ⟨⟨qE0, qE1⟩, ⟨fE0, fE1⟩, zE⟩ := HE.out
          obtain ⟨⟨qF0, qF1⟩, ⟨fF0, fF1⟩, zF⟩ := HF.out
          obtain ⟨⟨qA0, qA1⟩, ⟨fA0, fA1⟩, zA⟩ := HA.out
          obtain ⟨⟨qC0, qC1⟩, ⟨fC0, fC1⟩, zC⟩ := HC.out
          obtain ⟨⟨qG0, qG1⟩, ⟨fG0, fG1⟩, zG⟩ := HG.out
          go_wp2_with fail
          go_at_call 30
          refine (S18.out _).mono ?_
          rintro e w382 ⟨rfl, hb⟩
          clear qE0 fE0 qE1 fE1 zE qF0 fF0 qF1 fF1 zF qA0 fA0 qA1 fA1 zA qC0 fC0 qC1 fC1 zC qG0 fG0 qG1 fG1 zG
          have HE := Lib.hid (HE.out.below hb)
          have HF := Lib.hid (HF.out.below hb)
          have HA := Lib.hid (HA.out.below hb)
          have HC := Lib.hid (HC.out.below hb)
          have HG := Lib.hid (HG.out.below hb)
          have HB := Lib.hid (below_after hb HB.out)
          clear hb
          obtain ⟨⟨qE0, qE1⟩, ⟨fE0, fE1⟩, zE⟩ := HE.out
          obtain ⟨⟨qF0, qF1⟩, ⟨fF0, fF1⟩, zF⟩ := HF.out
          obtain ⟨⟨qA0, qA1⟩, ⟨fA0, fA1⟩, zA⟩ := HA.out
          obtain ⟨⟨qC0, qC1⟩, ⟨fC0, fC1⟩, zC⟩ := HC.out
          obtain ⟨⟨qG0, qG1⟩, ⟨fG0, fG1⟩, zG⟩ := HG.out
          go_upto_region 50 with fail
          obtain ⟨GH, hGH⟩ : ∃ g, w382.heap.size = g := ⟨_, rfl⟩
          obtain ⟨w383, hw383⟩ : ∃ wx, wx = w382.alloc (.cells #[.int .i64 s0, .int .i64 s1] 30) := ⟨_, rfl⟩
          rw [← hw383, hGH]
          have HH : Hid (Bk2 w383 GH s0 s1) := by rw [hw383, ← hGH]; exact bk2_new w382 s0 s1 _
          have le_H : w.heap.size ≤ GH := by rw [← hGH]; exact HB.out.size
          have ne_H_E : GH ≠ GE := by have := HE.out.2.2; omega
          have ne_E_H : GE ≠ GH := Ne.symm ne_H_E
          have ne_H_F : GH ≠ GF := by have := HF.out.2.2; omega
          have ne_F_H : GF ≠ GH := Ne.symm ne_H_F
          have ne_H_A : GH ≠ GA := by have := HA.out.2.2; omega
          have ne_A_H : GA ≠ GH := Ne.symm ne_H_A
          have ne_H_C : GH ≠ GC := by have := HC.out.2.2; omega
          have ne_C_H : GC ≠ GH := Ne.symm ne_H_C
          have ne_H_G : GH ≠ GG := by have := HG.out.2.2; omega
          have ne_G_H : GG ≠ GH := Ne.symm ne_H_G
          clear qE0 fE0 qE1 fE1 zE qF0 fF0 qF1 fF1 zF qA0 fA0 qA1 fA1 zA qC0 fC0 qC1 fC1 zC qG0 fG0 qG1 fG1 zG
          have HE := Lib.hid (HE.out.below ((Below.refl _ _).alloc (Nat.le_refl _) (.cells #[.int .i64 s0, .int .i64 s1] 30)))
          have HF := Lib.hid (HF.out.below ((Below.refl _ _).alloc (Nat.le_refl _) (.cells #[.int .i64 s0, .int .i64 s1] 30)))
          have HA := Lib.hid (HA.out.below ((Below.refl _ _).alloc (Nat.le_refl _) (.cells #[.int .i64 s0, .int .i64 s1] 30)))
          have HC := Lib.hid (HC.out.below ((Below.refl _ _).alloc (Nat.le_refl _) (.cells #[.int .i64 s0, .int .i64 s1] 30)))
          have HG := Lib.hid (HG.out.below ((Below.refl _ _).alloc (Nat.le_refl _) (.cells #[.int .i64 s0, .int .i64 s1] 30)))
          have HB := Lib.hid (Below.alloc HB.out HB.out.size (.cells #[.int .i64 s0, .int .i64 s1] 30))
          rw [← hw383] at HE HF HA HC HG HB
          clear hw383 hGH
          clear HA HC
          obtain ⟨⟨qE0, qE1⟩, ⟨fE0, fE1⟩, zE⟩ := HE.out
          obtain ⟨⟨qF0, qF1⟩, ⟨fF0, fF1⟩, zF⟩ := HF.out
          obtain ⟨⟨qG0, qG1⟩, ⟨fG0, fG1⟩, zG⟩ := HG.out
          obtain ⟨⟨qH0, qH1⟩, ⟨fH0, fH1⟩, zH⟩ := HH.out
          go_wp2_with fail
          go_at_call 31
          refine (CD6.out _ HB.out).mono ?_
          rintro e w384 ⟨p1, q1, rr1, t1, x3, y3, rfl, hb⟩
          clear qE0 fE0 qE1 fE1 zE qF0 fF0 qF1 fF1 zF qG0 fG0 qG1 fG1 zG qH0 fH0 qH1 fH1 zH
          have HE := Lib.hid (HE.out.below hb)
          have HF := Lib.hid (HF.out.below hb)
          have HG := Lib.hid (HG.out.below hb)
          have HH := Lib.hid (HH.out.below hb)
          have HB := Lib.hid (below_after hb HB.out)
          clear hb
          obtain ⟨⟨qE0, qE1⟩, ⟨fE0, fE1⟩, zE⟩ := HE.out
          obtain ⟨⟨qF0, qF1⟩, ⟨fF0, fF1⟩, zF⟩ := HF.out
          obtain ⟨⟨qG0, qG1⟩, ⟨fG0, fG1⟩, zG⟩ := HG.out
          obtain ⟨⟨qH0, qH1⟩, ⟨fH0, fH1⟩, zH⟩ := HH.out
          go_upto_region 51 with fail
          obtain ⟨w385, hw385⟩ : ∃ wx, wx = (w384.alloc (.cells #[.int .i64 p1, .int .i64 q1, .int .i64 rr1, .int .i64 t1] 26)).alloc (.cells #[.int .i64 x3, .int .i64 y3] 30) := ⟨_, rfl⟩
          rw [← hw385]
          obtain ⟨GA, hGA⟩ : ∃ g, w384.heap.size = g := ⟨_, rfl⟩
          have HA : Hid (Bk4 w385 GA p1 q1 rr1 t1) := by
            have h := (bk4_new w384 p1 q1 rr1 t1 26).below (W' := w385) (by rw [hw385]; (repeat' (first | (with_reducible exact Below.refl _ _) | (with_reducible refine Below.alloc ?_ ?_ _) | (with_reducible refine Below.setCell ?_ ?_ _) | (with_reducible refine Below.drew ?_) | (with_reducible refine below_drewN ?_ _) | (with_reducible assumption) | (with_reducible refine below_after (by with_reducible assumption) ?_) | go_size)))
            (try simp only [World.size_alloc] at h)
            rw [hGA] at h
            exact h
          have le_A : w.heap.size ≤ GA := by have := HB.out.size; omega
          have ne_A_E : GA ≠ GE := by have := HE.out.2.2; omega
          have ne_E_A : GE ≠ GA := Ne.symm ne_A_E
          have ne_A_F : GA ≠ GF := by have := HF.out.2.2; omega
          have ne_F_A : GF ≠ GA := Ne.symm ne_A_F
          have ne_A_G : GA ≠ GG := by have := HG.out.2.2; omega
          have ne_G_A : GG ≠ GA := Ne.symm ne_A_G
          have ne_A_H : GA ≠ GH := by have := HH.out.2.2; omega
          have ne_H_A : GH ≠ GA := Ne.symm ne_A_H
          obtain ⟨GC, hGC⟩ : ∃ g, w384.heap.size + 1 = g := ⟨_, rfl⟩
          have HC : Hid (Bk2 w385 GC x3 y3) := by
            have h := (bk2_new (w384.alloc (.cells #[.int .i64 p1, .int .i64 q1, .int .i64 rr1, .int .i64 t1] 26)) x3 y3 30).below (W' := w385) (by rw [hw385]; (repeat' (first | (with_reducible exact Below.refl _ _) | (with_reducible refine Below.alloc ?_ ?_ _) | (with_reducible refine Below.setCell ?_ ?_ _) | (with_reducible refine Below.drew ?_) | (with_reducible refine below_drewN ?_ _) | (with_reducible assumption) | (with_reducible refine below_after (by with_reducible assumption) ?_) | go_size)))
            (try simp only [World.size_alloc] at h)
            rw [hGC] at h
            exact h
          have le_C : w.heap.size ≤ GC := by have := HB.out.size; omega
          have ne_C_E : GC ≠ GE := by have := HE.out.2.2; omega
          have ne_E_C : GE ≠ GC := Ne.symm ne_C_E
          have ne_C_F : GC ≠ GF := by have := HF.out.2.2; omega
          have ne_F_C : GF ≠ GC := Ne.symm ne_C_F
          have ne_C_G : GC ≠ GG := by have := HG.out.2.2; omega
          have ne_G_C : GG ≠ GC := Ne.symm ne_C_G
          have ne_C_H : GC ≠ GH := by have := HH.out.2.2; omega
          have ne_H_C : GH ≠ GC := Ne.symm ne_C_H
          have ne_C_A : GC ≠ GA := by omega
          have ne_A_C : GA ≠ GC := Ne.symm ne_C_A
          clear qE0 fE0 qE1 fE1 zE qF0 fF0 qF1 fF1 zF qG0 fG0 qG1 fG1 zG qH0 fH0 qH1 fH1 zH
          have hbn : Below w384.heap.size w384 w385 := by rw [hw385]; (repeat' (first | (with_reducible exact Below.refl _ _) | (with_reducible refine Below.alloc ?_ ?_ _) | (with_reducible refine Below.setCell ?_ ?_ _) | (with_reducible refine Below.drew ?_) | (with_reducible refine below_drewN ?_ _) | (with_reducible assumption) | (with_reducible refine below_after (by with_reducible assumption) ?_) | go_size))
          have HE := Lib.hid (HE.out.below hbn)
          have HF := Lib.hid (HF.out.below hbn)
          have HG := Lib.hid (HG.out.below hbn)
          have HH := Lib.hid (HH.out.below hbn)
          have HB := Lib.hid (below_after hbn HB.out)
          clear hbn
          rw [hGA] at hGC
          simp only [hGA]
          simp only [hGC]
          clear hw385 hGA hGC
          obtain ⟨u0, u1, d3, i19, s19, f19⟩ := both_ApplyMatrix p1 q1 rr1 t1 x3 y3
          have I19 := Lib.hid i19
          have S19 := Lib.hid s19
          have HF19 := Lib.hid f19
          clear f19
          clear i19 s19
          clear HF19
          obtain ⟨⟨qE0, qE1⟩, ⟨fE0, fE1⟩, zE⟩ := HE.out
          obtain ⟨⟨qF0, qF1⟩, ⟨fF0, fF1⟩, zF⟩ := HF.out
          obtain ⟨⟨qG0, qG1⟩, ⟨fG0, fG1⟩, zG⟩ := HG.out
          obtain ⟨⟨qH0, qH1⟩, ⟨fH0, fH1⟩, zH⟩ := HH.out
          obtain ⟨⟨qA0, qA1, qA2, qA3⟩, ⟨fA0, fA1, fA2, fA3⟩, zA⟩ := HA.out
          obtain ⟨⟨qC0, qC1⟩, ⟨fC0, fC1⟩, zC⟩ := HC.out
          go_wp2_with fail
          go_at_call 16
          refine (I19.out _).mono ?_
          rintro e w386 ⟨rfl, hb⟩
          clear qE0 fE0 qE1 fE1 zE qF0 fF0 qF1 fF1 zF qG0 fG0 qG1 fG1 zG qH0 fH0 qH1 fH1 zH qA0 fA0 qA1 fA1 qA2 fA2 qA3 fA3 zA qC0 fC0 qC1 fC1 zC
          have HE := Lib.hid (HE.out.below hb)
          have HF := Lib.hid (HF.out.below hb)
          have HG := Lib.hid (HG.out.below hb)
          have HH := Lib.hid (HH.out.below hb)
          have HA := Lib.hid (HA.out.below hb)
          have HC := Lib.hid (HC.out.below hb)
          have HB := Lib.hid (below_after hb HB.out)
          clear hb
          obtain ⟨⟨qE0, qE1⟩, ⟨fE0, fE1⟩, zE⟩ := HE.out
          obtain ⟨⟨qF0, qF1⟩, ⟨fF0, fF1⟩, zF⟩ := HF.out
          obtain ⟨⟨qG0, qG1⟩, ⟨fG0, fG1⟩, zG⟩ := HG.out
          obtain ⟨⟨qH0, qH1⟩, ⟨fH0, fH1⟩, zH⟩ := HH.out
          obtain ⟨⟨qA0, qA1, qA2, qA3⟩, ⟨fA0, fA1, fA2, fA3⟩, zA⟩ := HA.out
          obtain ⟨⟨qC0, qC1⟩, ⟨fC0, fC1⟩, zC⟩ := HC.out
          go_upto_region 52 with fail
          obtain ⟨GJ, hGJ⟩ : ∃ g, w386.heap.size = g := ⟨_, rfl⟩
          obtain ⟨w387, hw387⟩ : ∃ wx, wx = w386.alloc (.cells #[.int .i64 u0, .int .i64 u1] 30) := ⟨_, rfl⟩
          rw [← hw387, hGJ]
          have HJ : Hid (Bk2 w387 GJ u0 u1) := by rw [hw387, ← hGJ]; exact bk2_new w386 u0 u1 _
          have le_J : w.heap.size ≤ GJ := by rw [← hGJ]; exact HB.out.size
          have ne_J_E : GJ ≠ GE := by have := HE.out.2.2; omega
          have ne_E_J : GE ≠ GJ := Ne.symm ne_J_E
          have ne_J_F : GJ ≠ GF := by have := HF.out.2.2; omega
          have ne_F_J : GF ≠ GJ := Ne.symm ne_J_F
          have ne_J_G : GJ ≠ GG := by have := HG.out.2.2; omega
          have ne_G_J : GG ≠ GJ := Ne.symm ne_J_G
          have ne_J_H : GJ ≠ GH := by have := HH.out.2.2; omega
          have ne_H_J : GH ≠ GJ := Ne.symm ne_J_H
          have ne_J_A : GJ ≠ GA := by have := HA.out.2.2; omega
          have ne_A_J : GA ≠ GJ := Ne.symm ne_J_A
          have ne_J_C : GJ ≠ GC := by have := HC.out.2.2; omega
          have ne_C_J : GC ≠ GJ := Ne.symm ne_J_C
          clear qE0 fE0 qE1 fE1 zE qF0 fF0 qF1 fF1 zF qG0 fG0 qG1 fG1 zG qH0 fH0 qH1 fH1 zH qA0 fA0 qA1 fA1 qA2 fA2 qA3 fA3 zA qC0 fC0 qC1 fC1 zC
          have HE := Lib.hid (HE.out.below ((Below.refl _ _).alloc (Nat.le_refl _) (.cells #[.int .i64 u0, .int .i64 u1] 30)))
          have HF := Lib.hid (HF.out.below ((Below.refl _ _).alloc (Nat.le_refl _) (.cells #[.int .i64 u0, .int .i64 u1] 30)))
          have HG := Lib.hid (HG.out.below ((Below.refl _ _).alloc (Nat.le_refl _) (.cells #[.int .i64 u0, .int .i64 u1] 30)))
          have HH := Lib.hid (HH.out.below ((Below.refl _ _).alloc (Nat.le_refl _) (.cells #[.int .i64 u0, .int .i64 u1] 30)))
          have HA := Lib.hid (HA.out.below ((Below.refl _ _).alloc (Nat.le_refl _) (.cells #[.int .i64 u0, .int .i64 u1] 30)))
          have HC := Lib.hid (HC.out.below ((Below.refl _ _).alloc (Nat.le_refl _) (.cells #[.int .i64 u0, .int .i64 u1] 30)))
          have HB := Lib.hid (Below.alloc HB.out HB.out.size (.cells #[.int .i64 u0, .int .i64 u1] 30))
          rw [← hw387] at HE HF HG HH HA HC HB
          clear hw387 hGJ
          obtain ⟨⟨qE0, qE1⟩, ⟨fE0, fE1⟩, zE⟩ := HE.out
          obtain ⟨⟨qF0, qF1⟩, ⟨fF0, fF1⟩, zF⟩ := HF.out
          obtain ⟨⟨qG0, qG1⟩, ⟨fG0, fG1⟩, zG⟩ := HG.out
          obtain ⟨⟨qH0, qH1⟩, ⟨fH0, fH1⟩, zH⟩ := HH.out
          obtain ⟨⟨qA0, qA1, qA2, qA3⟩, ⟨fA0, fA1, fA2, fA3⟩, zA⟩ := HA.out
          obtain ⟨⟨qC0, qC1⟩, ⟨fC0, fC1⟩, zC⟩ := HC.out
          obtain ⟨⟨qJ0, qJ1⟩, ⟨fJ0, fJ1⟩, zJ⟩ := HJ.out
          go_wp2_with fail
          go_at_call 32
          refine (S19.out _).mono ?_
          rintro e w388 ⟨rfl, hb⟩
          clear qE0 fE0 qE1 fE1 zE qF0 fF0 qF1 fF1 zF qG0 fG0 qG1 fG1 zG qH0 fH0 qH1 fH1 zH qA0 fA0 qA1 fA1 qA2 fA2 qA3 fA3 zA qC0 fC0 qC1 fC1 zC qJ0 fJ0 qJ1 fJ1 zJ
          have HE := Lib.hid (HE.out.below hb)
          have HF := Lib.hid (HF.out.below hb)
          have HG := Lib.hid (HG.out.below hb)
          have HH := Lib.hid (HH.out.below hb)
          have HA := Lib.hid (HA.out.below hb)
          have HC := Lib.hid (HC.out.below hb)
          have HJ := Lib.hid (HJ.out.below hb)
          have HB := Lib.hid (below_after hb HB.out)
          clear hb
          obtain ⟨⟨qE0, qE1⟩, ⟨fE0, fE1⟩, zE⟩ := HE.out
          obtain ⟨⟨qF0, qF1⟩, ⟨fF0, fF1⟩, zF⟩ := HF.out
          obtain ⟨⟨qG0, qG1⟩, ⟨fG0, fG1⟩, zG⟩ := HG.out
          obtain ⟨⟨qH0, qH1⟩, ⟨fH0, fH1⟩, zH⟩ := HH.out
          obtain ⟨⟨qA0, qA1, qA2, qA3⟩, ⟨fA0, fA1, fA2, fA3⟩, zA⟩ := HA.out
          obtain ⟨⟨qC0, qC1⟩, ⟨fC0, fC1⟩, zC⟩ := HC.out
          obtain ⟨⟨qJ0, qJ1⟩, ⟨fJ0, fJ1⟩, zJ⟩ := HJ.out
          go_upto_region 53 with fail
          obtain ⟨GK, hGK⟩ : ∃ g, w388.heap.size = g := ⟨_, rfl⟩
          obtain ⟨w389, hw389⟩ : ∃ wx, wx = w388.alloc (.cells #[.int .i64 u0, .int .i64 u1] 30) := ⟨_, rfl⟩
          rw [← hw389, hGK]
          have HK : Hid (Bk2 w389 GK u0 u1) := by rw [hw389, ← hGK]; exact bk2_new w388 u0 u1 _
          have le_K : w.heap.size ≤ GK := by rw [← hGK]; exact HB.out.size
          have ne_K_E : GK ≠ GE := by have := HE.out.2.2; omega
          have ne_E_K : GE ≠ GK := Ne.symm ne_K_E
          have ne_K_F : GK ≠ GF := by have := HF.out.2.2; omega
          have ne_F_K : GF ≠ GK := Ne.symm ne_K_F
          have ne_K_G : GK ≠ GG := by have := HG.out.2.2; omega
          have ne_G_K : GG ≠ GK := Ne.symm ne_K_G
          have ne_K_H : GK ≠ GH := by have := HH.out.2.2; omega
          have ne_H_K : GH ≠ GK := Ne.symm ne_K_H
          have ne_K_A : GK ≠ GA := by have := HA.out.2.2; omega
          have ne_A_K : GA ≠ GK := Ne.symm ne_K_A
          have ne_K_C : GK ≠ GC := by have := HC.out.2.2; omega
          have ne_C_K : GC ≠ GK := Ne.symm ne_K_C
          have ne_K_J : GK ≠ GJ := by have := HJ.out.2.2; omega
          have ne_J_K : GJ ≠ GK := Ne.symm ne_K_J
          clear qE0 fE0 qE1 fE1 zE qF0 fF0 qF1 fF1 zF qG0 fG0 qG1 fG1 zG qH0 fH0 qH1 fH1 zH qA0 fA0 qA1 fA1 qA2 fA2 qA3 fA3 zA qC0 fC0 qC1 fC1 zC qJ0 fJ0 qJ1 fJ1 zJ
          have HE := Lib.hid (HE.out.below ((Below.refl _ _).alloc (Nat.le_refl _) (.cells #[.int .i64 u0, .int .i64 u1] 30)))
          have HF := Lib.hid (HF.out.below ((Below.refl _ _).alloc (Nat.le_refl _) (.cells #[.int .i64 u0, .int .i64 u1] 30)))
          have HG := Lib.hid (HG.out.below ((Below.refl _ _).alloc (Nat.le_refl _) (.cells #[.int .i64 u0, .int .i64 u1] 30)))
          have HH := Lib.hid (HH.out.below ((Below.refl _ _).alloc (Nat.le_refl _) (.cells #[.int .i64 u0, .int .i64 u1] 30)))
          have HA := Lib.hid (HA.out.below ((Below.refl _ _).alloc (Nat.le_refl _) (.cells #[.int .i64 u0, .int .i64 u1] 30)))
          have HC := Lib.hid (HC.out.below ((Below.refl _ _).alloc (Nat.le_refl _) (.cells #[.int .i64 u0, .int .i64 u1] 30)))
          have HJ := Lib.hid (HJ.out.below ((Below.refl _ _).alloc (Nat.le_refl _) (.cells #[.int .i64 u0, .int .i64 u1] 30)))
          have HB := Lib.hid (Below.alloc HB.out HB.out.size (.cells #[.int .i64 u0, .int .i64 u1] 30))
          rw [← hw389] at HE HF HG HH HA HC HJ HB
          clear hw389 hGK
          clear HA HC
          obtain ⟨⟨qE0, qE1⟩, ⟨fE0, fE1⟩, zE⟩ := HE.out
          obtain ⟨⟨qF0, qF1⟩, ⟨fF0, fF1⟩, zF⟩ := HF.out
          obtain ⟨⟨qG0, qG1⟩, ⟨fG0, fG1⟩, zG⟩ := HG.out
          obtain ⟨⟨qH0, qH1⟩, ⟨fH0, fH1⟩, zH⟩ := HH.out
          obtain ⟨⟨qJ0, qJ1⟩, ⟨fJ0, fJ1⟩, zJ⟩ := HJ.out
          obtain ⟨⟨qK0, qK1⟩, ⟨fK0, fK1⟩, zK⟩ := HK.out
          go_wp2_with fail
          go_at_call 33
          refine (CD7.out _ HB.out).mono ?_
          rintro e w390 ⟨p2, q2, r2, t2, p3, q3, r3, t3, rfl, hb⟩
          clear qE0 fE0 qE1 fE1 zE qF0 fF0 qF1 fF1 zF qG0 fG0 qG1 fG1 zG qH0 fH0 qH1 fH1 zH qJ0 fJ0 qJ1 fJ1 zJ qK0 fK0 qK1 fK1 zK
          have HE := Lib.hid (HE.out.below hb)
          have HF := Lib.hid (HF.out.below hb)
          have HG := Lib.hid (HG.out.below hb)
          have HH := Lib.hid (HH.out.below hb)
          have HJ := Lib.hid (HJ.out.below hb)
          have HK := Lib.hid (HK.out.below hb)
          have HB := Lib.hid (below_after hb HB.out)
          clear hb
          obtain ⟨⟨qE0, qE1⟩, ⟨fE0, fE1⟩, zE⟩ := HE.out
          obtain ⟨⟨qF0, qF1⟩, ⟨fF0, fF1⟩, zF⟩ := HF.out
          obtain ⟨⟨qG0, qG1⟩, ⟨fG0, fG1⟩, zG⟩ := HG.out
          obtain ⟨⟨qH0, qH1⟩, ⟨fH0, fH1⟩, zH⟩ := HH.out
          obtain ⟨⟨qJ0, qJ1⟩, ⟨fJ0, fJ1⟩, zJ⟩ := HJ.out
          obtain ⟨⟨qK0, qK1⟩, ⟨fK0, fK1⟩, zK⟩ := HK.out
          go_upto_region 54 with fail
          obtain ⟨w391, hw391⟩ : ∃ wx, wx = (w390.alloc (.cells #[.int .i64 p2, .int .i64 q2, .int .i64 r2, .int .i64 t2] 26)).alloc (.cells #[.int .i64 p3, .int .i64 q3, .int .i64 r3, .int .i64 t3] 26) := ⟨_, rfl⟩
          rw [← hw391]
          obtain ⟨GA, hGA⟩ : ∃ g, w390.heap.size = g := ⟨_, rfl⟩
          have HA : Hid (Bk4 w391 GA p2 q2 r2 t2) := by
            have h := (bk4_new w390 p2 q2 r2 t2 26).below (W' := w391) (by rw [hw391]; (repeat' (first | (with_reducible exact Below.refl _ _) | (with_reducible refine Below.alloc ?_ ?_ _) | (with_reducible refine Below.setCell ?_ ?_ _) | (with_reducible refine Below.drew ?_) | (with_reducible refine below_drewN ?_ _) | (with_reducible assumption) | (with_reducible refine below_after (by with_reducible assumption) ?_) | go_size)))
            (try simp only [World.size_alloc] at h)
            rw [hGA] at h
            exact h
          have le_A : w.heap.size ≤ GA := by have := HB.out.size; omega
          have ne_A_E : GA ≠ GE := by have := HE.out.2.2; omega
          have ne_E_A : GE ≠ GA := Ne.symm ne_A_E
          have ne_A_F : GA ≠ GF := by have := HF.out.2.2; omega
          have ne_F_A : GF ≠ GA := Ne.symm ne_A_F
          have ne_A_G : GA ≠ GG := by have := HG.out.2.2; omega
          have ne_G_A : GG ≠ GA := Ne.symm ne_A_G
          have ne_A_H : GA ≠ GH := by have := HH.out.2.2; omega
          have ne_H_A : GH ≠ GA := Ne.symm ne_A_H
          have ne_A_J : GA ≠ GJ := by have := HJ.out.2.2; omega
          have ne_J_A : GJ ≠ GA := Ne.symm ne_A_J
          have ne_A_K : GA ≠ GK := by have := HK.out.2.2; omega
          have ne_K_A : GK ≠ GA := Ne.symm ne_A_K
          obtain ⟨GC, hGC⟩ : ∃ g, w390.heap.size + 1 = g := ⟨_, rfl⟩
          have HC : Hid (Bk4 w391 GC p3 q3 r3 t3) := by
            have h := (bk4_new (w390.alloc (.cells #[.int .i64 p2, .int .i64 q2, .int .i64 r2, .int .i64 t2] 26)) p3 q3 r3 t3 26).below (W' := w391) (by rw [hw391]; (repeat' (first | (with_reducible exact Below.refl _ _) | (with_reducible refine Below.alloc ?_ ?_ _) | (with_reducible refine Below.setCell ?_ ?_ _) | (with_reducible refine Below.drew ?_) | (with_reducible refine below_drewN ?_ _) | (with_reducible assumption) | (with_reducible refine below_after (by with_reducible assumption) ?_) | go_size)))
            (try simp only [World.size_alloc] at h)
            rw [hGC] at h
            exact h
          have le_C : w.heap.size ≤ GC := by have := HB.out.size; omega
          have ne_C_E : GC ≠ GE := by have := HE.out.2.2; omega
          have ne_E_C : GE ≠ GC := Ne.symm ne_C_E
          have ne_C_F : GC ≠ GF := by have := HF.out.2.2; omega
          have ne_F_C : GF ≠ GC := Ne.symm ne_C_F
          have ne_C_G : GC ≠ GG := by have := HG.out.2.2; omega
          have ne_G_C : GG ≠ GC := Ne.symm ne_C_G
          have ne_C_H : GC ≠ GH := by have := HH.out.2.2; omega
          have ne_H_C : GH ≠ GC := Ne.symm ne_C_H
          have ne_C_J : GC ≠ GJ := by have := HJ.out.2.2; omega
          have ne_J_C : GJ ≠ GC := Ne.symm ne_C_J
          have ne_C_K : GC ≠ GK := by have := HK.out.2.2; omega
          have ne_K_C : GK ≠ GC := Ne.symm ne_C_K
          have ne_C_A : GC ≠ GA := by omega
          have ne_A_C : GA ≠ GC := Ne.symm ne_C_A
          clear qE0 fE0 qE1 fE1 zE qF0 fF0 qF1 fF1 zF qG0 fG0 qG1 fG1 zG qH0 fH0 qH1 fH1 zH qJ0 fJ0 qJ1 fJ1 zJ qK0 fK0 qK1 fK1 zK
          have hbn : Below w390.heap.size w390 w391 := by rw [hw391]; (repeat' (first | (with_reducible exact Below.refl _ _) | (with_reducible refine Below.alloc ?_ ?_ _) | (with_reducible refine Below.setCell ?_ ?_ _) | (with_reducible refine Below.drew ?_) | (with_reducible refine below_drewN ?_ _) | (with_reducible assumption) | (with_reducible refine below_after (by with_reducible assumption) ?_) | go_size))
          have HE := Lib.hid (HE.out.below hbn)
          have HF := Lib.hid (HF.out.below hbn)
          have HG := Lib.hid (HG.out.below hbn)
          have HH := Lib.hid (HH.out.below hbn)
          have HJ := Lib.hid (HJ.out.below hbn)
          have HK := Lib.hid (HK.out.below hbn)
          have HB := Lib.hid (below_after hbn HB.out)
          clear hbn
          rw [hGA] at hGC
          simp only [hGA]
          simp only [hGC]
          clear hw391 hGA hGC
          obtain ⟨v0, v1, v2, v3, d4, i20, s20, f20⟩ := both_MultiplyMatrices p2 q2 r2 t2 p3 q3 r3 t3
          have I20 := Lib.hid i20
          have S20 := Lib.hid s20
          have HF20 := Lib.hid f20
          clear f20
          clear i20 s20
          clear HF20
          obtain ⟨⟨qE0, qE1⟩, ⟨fE0, fE1⟩, zE⟩ := HE.out
          obtain ⟨⟨qF0, qF1⟩, ⟨fF0, fF1⟩, zF⟩ := HF.out
          obtain ⟨⟨qG0, qG1⟩, ⟨fG0, fG1⟩, zG⟩ := HG.out
          obtain ⟨⟨qH0, qH1⟩, ⟨fH0, fH1⟩, zH⟩ := HH.out
          obtain ⟨⟨qJ0, qJ1⟩, ⟨fJ0, fJ1⟩, zJ⟩ := HJ.out
          obtain ⟨⟨qK0, qK1⟩, ⟨fK0, fK1⟩, zK⟩ := HK.out
          obtain ⟨⟨qA0, qA1, qA2, qA3⟩, ⟨fA0, fA1, fA2, fA3⟩, zA⟩ := HA.out
          obtain ⟨⟨qC0, qC1, qC2, qC3⟩, ⟨fC0, fC1, fC2, fC3⟩, zC⟩ := HC.out
          go_wp2_with fail
          go_at_call 15
          refine (I20.out _).mono ?_
          rintro e w392 ⟨rfl, hb⟩
          clear qE0 fE0 qE1 fE1 zE qF0 fF0 qF1 fF1 zF qG0 fG0 qG1 fG1 zG qH0 fH0 qH1 fH1 zH qJ0 fJ0 qJ1 fJ1 zJ qK0 fK0 qK1 fK1 zK qA0 fA0 qA1 fA1 qA2 fA2 qA3 fA3 zA qC0 fC0 qC1 fC1 qC2 fC2 qC3 fC3 zC
          have HE := Lib.hid (HE.out.below hb)
          have HF := Lib.hid (HF.out.below hb)
          have HG := Lib.hid (HG.out.below hb)
          have HH := Lib.hid (HH.out.below hb)
          have HJ := Lib.hid (HJ.out.below hb)
          have HK := Lib.hid (HK.out.below hb)
          have HA := Lib.hid (HA.out.below hb)
          have HC := Lib.hid (HC.out.below hb)
          have HB := Lib.hid (below_after hb HB.out)
          clear hb
          obtain ⟨⟨qE0, qE1⟩, ⟨fE0, fE1⟩, zE⟩ := HE.out
          obtain ⟨⟨qF0, qF1⟩, ⟨fF0, fF1⟩, zF⟩ := HF.out
          obtain ⟨⟨qG0, qG1⟩, ⟨fG0, fG1⟩, zG⟩ := HG.out
          obtain ⟨⟨qH0, qH1⟩, ⟨fH0, fH1⟩, zH⟩ := HH.out
          obtain ⟨⟨qJ0, qJ1⟩, ⟨fJ0, fJ1⟩, zJ⟩ := HJ.out
          obtain ⟨⟨qK0, qK1⟩, ⟨fK0, fK1⟩, zK⟩ := HK.out
          obtain ⟨⟨qA0, qA1, qA2, qA3⟩, ⟨fA0, fA1, fA2, fA3⟩, zA⟩ := HA.out
          obtain ⟨⟨qC0, qC1, qC2, qC3⟩, ⟨fC0, fC1, fC2, fC3⟩, zC⟩ := HC.out
          go_upto_region 55 with fail
          obtain ⟨GL, hGL⟩ : ∃ g, w392.heap.size = g := ⟨_, rfl⟩
          obtain ⟨w393, hw393⟩ : ∃ wx, wx = w392.alloc (.cells #[.int .i64 v0, .int .i64 v1, .int .i64 v2, .int .i64 v3] 26) := ⟨_, rfl⟩
          rw [← hw393, hGL]
          have HL : Hid (Bk4 w393 GL v0 v1 v2 v3) := by rw [hw393, ← hGL]; exact bk4_new w392 v0 v1 v2 v3 _
          have le_L : w.heap.size ≤ GL := by rw [← hGL]; exact HB.out.size
          have ne_L_E : GL ≠ GE := by have := HE.out.2.2; omega
          have ne_E_L : GE ≠ GL := Ne.symm ne_L_E
          have ne_L_F : GL ≠ GF := by have := HF.out.2.2; omega
          have ne_F_L : GF ≠ GL := Ne.symm ne_L_F
          have ne_L_G : GL ≠ GG := by have := HG.out.2.2; omega
          have ne_G_L : GG ≠ GL := Ne.symm ne_L_G
          have ne_L_H : GL ≠ GH := by have := HH.out.2.2; omega
          have ne_H_L : GH ≠ GL := Ne.symm ne_L_H
          have ne_L_J : GL ≠ GJ := by have := HJ.out.2.2; omega
          have ne_J_L : GJ ≠ GL := Ne.symm ne_L_J
          have ne_L_K : GL ≠ GK := by have := HK.out.2.2; omega
          have ne_K_L : GK ≠ GL := Ne.symm ne_L_K
          have ne_L_A : GL ≠ GA := by have := HA.out.2.2; omega
          have ne_A_L : GA ≠ GL := Ne.symm ne_L_A
          have ne_L_C : GL ≠ GC := by have := HC.out.2.2; omega
          have ne_C_L : GC ≠ GL := Ne.symm ne_L_C
          clear qE0 fE0 qE1 fE1 zE qF0 fF0 qF1 fF1 zF qG0 fG0 qG1 fG1 zG qH0 fH0 qH1 fH1 zH qJ0 fJ0 qJ1 fJ1 zJ qK0 fK0 qK1 fK1 zK qA0 fA0 qA1 fA1 qA2 fA2 qA3 fA3 zA qC0 fC0 qC1 fC1 qC2 fC2 qC3 fC3 zC
          have HE := Lib.hid (HE.out.below ((Below.refl _ _).alloc (Nat.le_refl _) (.cells #[.int .i64 v0, .int .i64 v1, .int .i64 v2, .int .i64 v3] 26)))
          have HF := Lib.hid (HF.out.below ((Below.refl _ _).alloc (Nat.le_refl _) (.cells #[.int .i64 v0, .int .i64 v1, .int .i64 v2, .int .i64 v3] 26)))
          have HG := Lib.hid (HG.out.below ((Below.refl _ _).alloc (Nat.le_refl _) (.cells #[.int .i64 v0, .int .i64 v1, .int .i64 v2, .int .i64 v3] 26)))
          have HH := Lib.hid (HH.out.below ((Below.refl _ _).alloc (Nat.le_refl _) (.cells #[.int .i64 v0, .int .i64 v1, .int .i64 v2, .int .i64 v3] 26)))
          have HJ := Lib.hid (HJ.out.below ((Below.refl _ _).alloc (Nat.le_refl _) (.cells #[.int .i64 v0, .int .i64 v1, .int .i64 v2, .int .i64 v3] 26)))
          have HK := Lib.hid (HK.out.below ((Below.refl _ _).alloc (Nat.le_refl _) (.cells #[.int .i64 v0, .int .i64 v1, .int .i64 v2, .int .i64 v3] 26)))
          have HA := Lib.hid (HA.out.below ((Below.refl _ _).alloc (Nat.le_refl _) (.cells #[.int .i64 v0, .int .i64 v1, .int .i64 v2, .int .i64 v3] 26)))
          have HC := Lib.hid (HC.out.below ((Below.refl _ _).alloc (Nat.le_refl _) (.cells #[.int .i64 v0, .int .i64 v1, .int .i64 v2, .int .i64 v3] 26)))
          have HB := Lib.hid (Below.alloc HB.out HB.out.size (.cells #[.int .i64 v0, .int .i64 v1, .int .i64 v2, .int .i64 v3] 26))
          rw [← hw393] at HE HF HG HH HJ HK HA HC HB
          clear hw393 hGL
          obtain ⟨⟨qE0, qE1⟩, ⟨fE0, fE1⟩, zE⟩ := HE.out
          obtain ⟨⟨qF0, qF1⟩, ⟨fF0, fF1⟩, zF⟩ := HF.out
          obtain ⟨⟨qG0, qG1⟩, ⟨fG0, fG1⟩, zG⟩ := HG.out
          obtain ⟨⟨qH0, qH1⟩, ⟨fH0, fH1⟩, zH⟩ := HH.out
          obtain ⟨⟨qJ0, qJ1⟩, ⟨fJ0, fJ1⟩, zJ⟩ := HJ.out
          obtain ⟨⟨qK0, qK1⟩, ⟨fK0, fK1⟩, zK⟩ := HK.out
          obtain ⟨⟨qA0, qA1, qA2, qA3⟩, ⟨fA0, fA1, fA2, fA3⟩, zA⟩ := HA.out
          obtain ⟨⟨qC0, qC1, qC2, qC3⟩, ⟨fC0, fC1, fC2, fC3⟩, zC⟩ := HC.out
          obtain ⟨⟨qL0, qL1, qL2, qL3⟩, ⟨fL0, fL1, fL2, fL3⟩, zL⟩ := HL.out
          go_wp2_with fail
          go_at_call 34
          refine (S20.out _).mono ?_
          rintro e w394 ⟨rfl, hb⟩
          clear qE0 fE0 qE1 fE1 zE qF0 fF0 qF1 fF1 zF qG0 fG0 qG1 fG1 zG qH0 fH0 qH1 fH1 zH qJ0 fJ0 qJ1 fJ1 zJ qK0 fK0 qK1 fK1 zK qA0 fA0 qA1 fA1 qA2 fA2 qA3 fA3 zA qC0 fC0 qC1 fC1 qC2 fC2 qC3 fC3 zC qL0 fL0 qL1 fL1 qL2 fL2 qL3 fL3 zL
          have HE := Lib.hid (HE.out.below hb)
          have HF := Lib.hid (HF.out.below hb)
          have HG := Lib.hid (HG.out.below hb)
          have HH := Lib.hid (HH.out.below hb)
          have HJ := Lib.hid (HJ.out.below hb)
          have HK := Lib.hid (HK.out.below hb)
          have HA := Lib.hid (HA.out.below hb)
          have HC := Lib.hid (HC.out.below hb)
          have HL := Lib.hid (HL.out.below hb)
          have HB := Lib.hid (below_after hb HB.out)
          clear hb
          obtain ⟨⟨qE0, qE1⟩, ⟨fE0, fE1⟩, zE⟩ := HE.out
          obtain ⟨⟨qF0, qF1⟩, ⟨fF0, fF1⟩, zF⟩ := HF.out
          obtain ⟨⟨qG0, qG1⟩, ⟨fG0, fG1⟩, zG⟩ := HG.out
          obtain ⟨⟨qH0, qH1⟩, ⟨fH0, fH1⟩, zH⟩ := HH.out
          obtain ⟨⟨qJ0, qJ1⟩, ⟨fJ0, fJ1⟩, zJ⟩ := HJ.out
          obtain ⟨⟨qK0, qK1⟩, ⟨fK0, fK1⟩, zK⟩ := HK.out
          obtain ⟨⟨qA0, qA1, qA2, qA3⟩, ⟨fA0, fA1, fA2, fA3⟩, zA⟩ := HA.out
          obtain ⟨⟨qC0, qC1, qC2, qC3⟩, ⟨fC0, fC1, fC2, fC3⟩, zC⟩ := HC.out
          obtain ⟨⟨qL0, qL1, qL2, qL3⟩, ⟨fL0, fL1, fL2, fL3⟩, zL⟩ := HL.out
          go_upto_region 56 with fail
          obtain ⟨GM, hGM⟩ : ∃ g, w394.heap.size = g := ⟨_, rfl⟩
          obtain ⟨w395, hw395⟩ : ∃ wx, wx = w394.alloc (.cells #[.int .i64 v0, .int .i64 v1, .int .i64 v2, .int .i64 v3] 26) := ⟨_, rfl⟩
          rw [← hw395, hGM]
          have HM : Hid (Bk4 w395 GM v0 v1 v2 v3) := by rw [hw395, ← hGM]; exact bk4_new w394 v0 v1 v2 v3 _
          have le_M : w.heap.size ≤ GM := by rw [← hGM]; exact HB.out.size
          have ne_M_E : GM ≠ GE := by have := HE.out.2.2; omega
          have ne_E_M : GE ≠ GM := Ne.symm ne_M_E
          have ne_M_F : GM ≠ GF := by have := HF.out.2.2; omega
          have ne_F_M : GF ≠ GM := Ne.symm ne_M_F
          have ne_M_G : GM ≠ GG := by have := HG.out.2.2; omega
          have ne_G_M : GG ≠ GM := Ne.symm ne_M_G
          have ne_M_H : GM ≠ GH := by have := HH.out.2.2; omega
          have ne_H_M : GH ≠ GM := Ne.symm ne_M_H
          have ne_M_J : GM ≠ GJ := by have := HJ.out.2.2; omega
          have ne_J_M : GJ ≠ GM := Ne.symm ne_M_J
          have ne_M_K : GM ≠ GK := by have := HK.out.2.2; omega
          have ne_K_M : GK ≠ GM := Ne.symm ne_M_K
          have ne_M_A : GM ≠ GA := by have := HA.out.2.2; omega
          have ne_A_M : GA ≠ GM := Ne.symm ne_M_A
          have ne_M_C : GM ≠ GC := by have := HC.out.2.2; omega
          have ne_C_M : GC ≠ GM := Ne.symm ne_M_C
          have ne_M_L : GM ≠ GL := by have := HL.out.2.2; omega
          have ne_L_M : GL ≠ GM := Ne.symm ne_M_L
          clear qE0 fE0 qE1 fE1 zE qF0 fF0 qF1 fF1 zF qG0 fG0 qG1 fG1 zG qH0 fH0 qH1 fH1 zH qJ0 fJ0 qJ1 fJ1 zJ qK0 fK0 qK1 fK1 zK qA0 fA0 qA1 fA1 qA2 fA2 qA3 fA3 zA qC0 fC0 qC1 fC1 qC2 fC2 qC3 fC3 zC qL0 fL0 qL1 fL1 qL2 fL2 qL3 fL3 zL
          have HE := Lib.hid (HE.out.below ((Below.refl _ _).alloc (Nat.le_refl _) (.cells #[.int .i64 v0, .int .i64 v1, .int .i64 v2, .int .i64 v3] 26)))
          have HF := Lib.hid (HF.out.below ((Below.refl _ _).alloc (Nat.le_refl _) (.cells #[.int .i64 v0, .int .i64 v1, .int .i64 v2, .int .i64 v3] 26)))
          have HG := Lib.hid (HG.out.below ((Below.refl _ _).alloc (Nat.le_refl _) (.cells #[.int .i64 v0, .int .i64 v1, .int .i64 v2, .int .i64 v3] 26)))
          have HH := Lib.hid (HH.out.below ((Below.refl _ _).alloc (Nat.le_refl _) (.cells #[.int .i64 v0, .int .i64 v1, .int .i64 v2, .int .i64 v3] 26)))
          have HJ := Lib.hid (HJ.out.below ((Below.refl _ _).alloc (Nat.le_refl _) (.cells #[.int .i64 v0, .int .i64 v1, .int .i64 v2, .int .i64 v3] 26)))
          have HK := Lib.hid (HK.out.below ((Below.refl _ _).alloc (Nat.le_refl _) (.cells #[.int .i64 v0, .int .i64 v1, .int .i64 v2, .int .i64 v3] 26)))
          have HA := Lib.hid (HA.out.below ((Below.refl _ _).alloc (Nat.le_refl _) (.cells #[.int .i64 v0, .int .i64 v1, .int .i64 v2, .int .i64 v3] 26)))
          have HC := Lib.hid (HC.out.below ((Below.refl _ _).alloc (Nat.le_refl _) (.cells #[.int .i64 v0, .int .i64 v1, .int .i64 v2, .int .i64 v3] 26)))
          have HL := Lib.hid (HL.out.below ((Below.refl _ _).alloc (Nat.le_refl _) (.cells #[.int .i64 v0, .int .i64 v1, .int .i64 v2, .int .i64 v3] 26)))
          have HB := Lib.hid (Below.alloc HB.out HB.out.size (.cells #[.int .i64 v0, .int .i64 v1, .int .i64 v2, .int .i64 v3] 26))
          rw [← hw395] at HE HF HG HH HJ HK HA HC HL HB
          clear hw395 hGM
          clear HA HC
          obtain ⟨⟨qE0, qE1⟩, ⟨fE0, fE1⟩, zE⟩ := HE.out
          obtain ⟨⟨qF0, qF1⟩, ⟨fF0, fF1⟩, zF⟩ := HF.out
          obtain ⟨⟨qG0, qG1⟩, ⟨fG0, fG1⟩, zG⟩ := HG.out
          obtain ⟨⟨qH0, qH1⟩, ⟨fH0, fH1⟩, zH⟩ := HH.out
          obtain ⟨⟨qJ0, qJ1⟩, ⟨fJ0, fJ1⟩, zJ⟩ := HJ.out
          obtain ⟨⟨qK0, qK1⟩, ⟨fK0, fK1⟩, zK⟩ := HK.out
          obtain ⟨⟨qL0, qL1, qL2, qL3⟩, ⟨fL0, fL1, fL2, fL3⟩, zL⟩ := HL.out
          obtain ⟨⟨qM0, qM1, qM2, qM3⟩, ⟨fM0, fM1, fM2, fM3⟩, zM⟩ := HM.out
          go_wp2_with fail
          go_at_call 35
          refine (CD8.out _ HB.out).mono ?_
          rintro e w396 ⟨x4, y4, x5, y5, rfl, hb⟩
          clear qE0 fE0 qE1 fE1 zE qF0 fF0 qF1 fF1 zF qG0 fG0 qG1 fG1 zG qH0 fH0 qH1 fH1 zH qJ0 fJ0 qJ1 fJ1 zJ qK0 fK0 qK1 fK1 zK qL0 fL0 qL1 fL1 qL2 fL2 qL3 fL3 zL qM0 fM0 qM1 fM1 qM2 fM2 qM3 fM3 zM
          have HE := Lib.hid (HE.out.below hb)
          have HF := Lib.hid (HF.out.below hb)
          have HG := Lib.hid (HG.out.below hb)
          have HH := Lib.hid (HH.out.below hb)
          have HJ := Lib.hid (HJ.out.below hb)
          have HK := Lib.hid (HK.out.below hb)
          have HL := Lib.hid (HL.out.below hb)
          have HM := Lib.hid (HM.out.below hb)
          have HB := Lib.hid (below_after hb HB.out)
          clear hb
          obtain ⟨⟨qE0, qE1⟩, ⟨fE0, fE1⟩, zE⟩ := HE.out
          obtain ⟨⟨qF0, qF1⟩, ⟨fF0, fF1⟩, zF⟩ := HF.out
          obtain ⟨⟨qG0, qG1⟩, ⟨fG0, fG1⟩, zG⟩ := HG.out
          obtain ⟨⟨qH0, qH1⟩, ⟨fH0, fH1⟩, zH⟩ := HH.out
          obtain ⟨⟨qJ0, qJ1⟩, ⟨fJ0, fJ1⟩, zJ⟩ := HJ.out
          obtain ⟨⟨qK0, qK1⟩, ⟨fK0, fK1⟩, zK⟩ := HK.out
          obtain ⟨⟨qL0, qL1, qL2, qL3⟩, ⟨fL0, fL1, fL2, fL3⟩, zL⟩ := HL.out
          obtain ⟨⟨qM0, qM1, qM2, qM3⟩, ⟨fM0, fM1, fM2, fM3⟩, zM⟩ := HM.out
          go_upto_region 57 with fail
          obtain ⟨w397, hw397⟩ : ∃ wx, wx = (w396.alloc (.cells #[.int .i64 x4, .int .i64 y4] 30)).alloc (.cells #[.int .i64 x5, .int .i64 y5] 30) := ⟨_, rfl⟩
          rw [← hw397]
          obtain ⟨GA, hGA⟩ : ∃ g, w396.heap.size = g := ⟨_, rfl⟩
          have HA : Hid (Bk2 w397 GA x4 y4) := by
            have h := (bk2_new w396 x4 y4 30).below (W' := w397) (by rw [hw397]; (repeat' (first | (with_reducible exact Below.refl _ _) | (with_reducible refine Below.alloc ?_ ?_ _) | (with_reducible refine Below.setCell ?_ ?_ _) | (with_reducible refine Below.drew ?_) | (with_reducible refine below_drewN ?_ _) | (with_reducible assumption) | (with_reducible refine below_after (by with_reducible assumption) ?_) | go_size)))
            (try simp only [World.size_alloc] at h)
            rw [hGA] at h
            exact h
          have le_A : w.heap.size ≤ GA := by have := HB.out.size; omega
          have ne_A_E : GA ≠ GE := by have := HE.out.2.2; omega
          have ne_E_A : GE ≠ GA := Ne.symm ne_A_E
          have ne_A_F : GA ≠ GF := by have := HF.out.2.2; omega
          have ne_F_A : GF ≠ GA := Ne.symm ne_A_F
          have ne_A_G : GA ≠ GG := by have := HG.out.2.2; omega
          have ne_G_A : GG ≠ GA := Ne.symm ne_A_G
          have ne_A_H : GA ≠ GH := by have := HH.out.2.2; omega
          have ne_H_A : GH ≠ GA := Ne.symm ne_A_H
          have ne_A_J : GA ≠ GJ := by have := HJ.out.2.2; omega
          have ne_J_A : GJ ≠ GA := Ne.symm ne_A_J
          have ne_A_K : GA ≠ GK := by have := HK.out.2.2; omega
          have ne_K_A : GK ≠ GA := Ne.symm ne_A_K
          have ne_A_L : GA ≠ GL := by have := HL.out.2.2; omega
          have ne_L_A : GL ≠ GA := Ne.symm ne_A_L
          have ne_A_M : GA ≠ GM := by have := HM.out.2.2; omega
          have ne_M_A : GM ≠ GA := Ne.symm ne_A_M
          obtain ⟨GC, hGC⟩ : ∃ g, w396.heap.size + 1 = g := ⟨_, rfl⟩
          have HC : Hid (Bk2 w397 GC x5 y5) := by
            have h := (bk2_new (w396.alloc (.cells #[.int .i64 x4, .int .i64 y4] 30)) x5 y5 30).below (W' := w397) (by rw [hw397]; (repeat' (first | (with_reducible exact Below.refl _ _) | (with_reducible refine Below.alloc ?_ ?_ _) | (with_reducible refine Below.setCell ?_ ?_ _) | (with_reducible refine Below.drew ?_) | (with_reducible refine below_drewN ?_ _) | (with_reducible assumption) | (with_reducible refine below_after (by with_reducible assumption) ?_) | go_size)))
            (try simp only [World.size_alloc] at h)
            rw [hGC] at h
            exact h
          have le_C : w.heap.size ≤ GC := by have := HB.out.size; omega
          have ne_C_E : GC ≠ GE := by have := HE.out.2.2; omega
          have ne_E_C : GE ≠ GC := Ne.symm ne_C_E
          have ne_C_F : GC ≠ GF := by have := HF.out.2.2; omega
          have ne_F_C : GF ≠ GC := Ne.symm ne_C_F
          have ne_C_G : GC ≠ GG := by have := HG.out.2.2; omega
          have ne_G_C : GG ≠ GC := Ne.symm ne_C_G
          have ne_C_H : GC ≠ GH := by have := HH.out.2.2; omega
          have ne_H_C : GH ≠ GC := Ne.symm ne_C_H
          have ne_C_J : GC ≠ GJ := by have := HJ.out.2.2; omega
          have ne_J_C : GJ ≠ GC := Ne.symm ne_C_J
          have ne_C_K : GC ≠ GK := by have := HK.out.2.2; omega
          have ne_K_C : GK ≠ GC := Ne.symm ne_C_K
          have ne_C_L : GC ≠ GL := by have := HL.out.2.2; omega
          have ne_L_C : GL ≠ GC := Ne.symm ne_C_L
          have ne_C_M : GC ≠ GM := by have := HM.out.2.2; omega
          have ne_M_C : GM ≠ GC := Ne.symm ne_C_M
          have ne_C_A : GC ≠ GA := by omega
          have ne_A_C : GA ≠ GC := Ne.symm ne_C_A
          clear qE0 fE0 qE1 fE1 zE qF0 fF0 qF1 fF1 zF qG0 fG0 qG1 fG1 zG qH0 fH0 qH1 fH1 zH qJ0 fJ0 qJ1 fJ1 zJ qK0 fK0 qK1 fK1 zK qL0 fL0 qL1 fL1 qL2 fL2 qL3 fL3 zL qM0 fM0 qM1 fM1 qM2 fM2 qM3 fM3 zM
          have hbn : Below w396.heap.size w396 w397 := by rw [hw397]; (repeat' (first | (with_reducible exact Below.refl _ _) | (with_reducible refine Below.alloc ?_ ?_ _) | (with_reducible refine Below.setCell ?_ ?_ _) | (with_reducible refine Below.drew ?_) | (with_reducible refine below_drewN ?_ _) | (with_reducible assumption) | (with_reducible refine below_after (by with_reducible assumption) ?_) | go_size))
          have HE := Lib.hid (HE.out.below hbn)
          have HF := Lib.hid (HF.out.below hbn)
          have HG := Lib.hid (HG.out.below hbn)
          have HH := Lib.hid (HH.out.below hbn)
          have HJ := Lib.hid (HJ.out.below hbn)
          have HK := Lib.hid (HK.out.below hbn)
          have HL := Lib.hid (HL.out.below hbn)
          have HM := Lib.hid (HM.out.below hbn)
          have HB := Lib.hid (below_after hbn HB.out)
          clear hbn
          rw [hGA] at hGC
          simp only [hGA]
          simp only [hGC]
          clear hw397 hGA hGC
          obtain ⟨lg, d5, i21, s21, f21⟩ := both_LengthOf x4 y4 x5 y5
          have I21 := Lib.hid i21
          have S21 := Lib.hid s21
          have HF21 := Lib.hid f21
          clear f21
          clear i21 s21
          clear HF21
          obtain ⟨⟨qE0, qE1⟩, ⟨fE0, fE1⟩, zE⟩ := HE.out
          obtain ⟨⟨qF0, qF1⟩, ⟨fF0, fF1⟩, zF⟩ := HF.out
          obtain ⟨⟨qG0, qG1⟩, ⟨fG0, fG1⟩, zG⟩ := HG.out
          obtain ⟨⟨qH0, qH1⟩, ⟨fH0, fH1⟩, zH⟩ := HH.out
          obtain ⟨⟨qJ0, qJ1⟩, ⟨fJ0, fJ1⟩, zJ⟩ := HJ.out
          obtain ⟨⟨qK0, qK1⟩, ⟨fK0, fK1⟩, zK⟩ := HK.out
          obtain ⟨⟨qL0, qL1, qL2, qL3⟩, ⟨fL0, fL1, fL2, fL3⟩, zL⟩ := HL.out
          obtain ⟨⟨qM0, qM1, qM2, qM3⟩, ⟨fM0, fM1, fM2, fM3⟩, zM⟩ := HM.out
          obtain ⟨⟨qA0, qA1⟩, ⟨fA0, fA1⟩, zA⟩ := HA.out
          obtain ⟨⟨qC0, qC1⟩, ⟨fC0, fC1⟩, zC⟩ := HC.out
          go_wp2_with fail
          go_at_call 17
          refine (I21.out _).mono ?_
          rintro e w398 ⟨rfl, hb⟩
          clear qE0 fE0 qE1 fE1 zE qF0 fF0 qF1 fF1 zF qG0 fG0 qG1 fG1 zG qH0 fH0 qH1 fH1 zH qJ0 fJ0 qJ1 fJ1 zJ qK0 fK0 qK1 fK1 zK qL0 fL0 qL1 fL1 qL2 fL2 qL3 fL3 zL qM0 fM0 qM1 fM1 qM2 fM2 qM3 fM3 zM qA0 fA0 qA1 fA1 zA qC0 fC0 qC1 fC1 zC
          have HE := Lib.hid (HE.out.below hb)
          have HF := Lib.hid (HF.out.below hb)
          have HG := Lib.hid (HG.out.below hb)
          have HH := Lib.hid (HH.out.below hb)
          have HJ := Lib.hid (HJ.out.below hb)
          have HK := Lib.hid (HK.out.below hb)
          have HL := Lib.hid (HL.out.below hb)
          have HM := Lib.hid (HM.out.below hb)
          have HA := Lib.hid (HA.out.below hb)
          have HC := Lib.hid (HC.out.below hb)
          have HB := Lib.hid (below_after hb HB.out)
          clear hb
          obtain ⟨⟨qE0, qE1⟩, ⟨fE0, fE1⟩, zE⟩ := HE.out
          obtain ⟨⟨qF0, qF1⟩, ⟨fF0, fF1⟩, zF⟩ := HF.out
          obtain ⟨⟨qG0, qG1⟩, ⟨fG0, fG1⟩, zG⟩ := HG.out
          obtain ⟨⟨qH0, qH1⟩, ⟨fH0, fH1⟩, zH⟩ := HH.out
          obtain ⟨⟨qJ0, qJ1⟩, ⟨fJ0, fJ1⟩, zJ⟩ := HJ.out
          obtain ⟨⟨qK0, qK1⟩, ⟨fK0, fK1⟩, zK⟩ := HK.out
          obtain ⟨⟨qL0, qL1, qL2, qL3⟩, ⟨fL0, fL1, fL2, fL3⟩, zL⟩ := HL.out
          obtain ⟨⟨qM0, qM1, qM2, qM3⟩, ⟨fM0, fM1, fM2, fM3⟩, zM⟩ := HM.out
          obtain ⟨⟨qA0, qA1⟩, ⟨fA0, fA1⟩, zA⟩ := HA.out
          obtain ⟨⟨qC0, qC1⟩, ⟨fC0, fC1⟩, zC⟩ := HC.out
          go_wp2_with fail
          go_at_call 36
          refine (S21.out _).mono ?_
          rintro e w399 ⟨rfl, hb⟩
          clear qE0 fE0 qE1 fE1 zE qF0 fF0 qF1 fF1 zF qG0 fG0 qG1 fG1 zG qH0 fH0 qH1 fH1 zH qJ0 fJ0 qJ1 fJ1 zJ qK0 fK0 qK1 fK1 zK qL0 fL0 qL1 fL1 qL2 fL2 qL3 fL3 zL qM0 fM0 qM1 fM1 qM2 fM2 qM3 fM3 zM qA0 fA0 qA1 fA1 zA qC0 fC0 qC1 fC1 zC
          have HE := Lib.hid (HE.out.below hb)
          have HF := Lib.hid (HF.out.below hb)
          have HG := Lib.hid (HG.out.below hb)
          have HH := Lib.hid (HH.out.below hb)
          have HJ := Lib.hid (HJ.out.below hb)
          have HK := Lib.hid (HK.out.below hb)
          have HL := Lib.hid (HL.out.below hb)
          have HM := Lib.hid (HM.out.below hb)
          have HA := Lib.hid (HA.out.below hb)
          have HC := Lib.hid (HC.out.below hb)
          have HB := Lib.hid (below_after hb HB.out)
          clear hb
          clear HA HC
          obtain ⟨⟨qE0, qE1⟩, ⟨fE0, fE1⟩, zE⟩ := HE.out
          obtain ⟨⟨qF0, qF1⟩, ⟨fF0, fF1⟩, zF⟩ := HF.out
          obtain ⟨⟨qG0, qG1⟩, ⟨fG0, fG1⟩, zG⟩ := HG.out
          obtain ⟨⟨qH0, qH1⟩, ⟨fH0, fH1⟩, zH⟩ := HH.out
          obtain ⟨⟨qJ0, qJ1⟩, ⟨fJ0, fJ1⟩, zJ⟩ := HJ.out
          obtain ⟨⟨qK0, qK1⟩, ⟨fK0, fK1⟩, zK⟩ := HK.out
          obtain ⟨⟨qL0, qL1, qL2, qL3⟩, ⟨fL0, fL1, fL2, fL3⟩, zL⟩ := HL.out
          obtain ⟨⟨qM0, qM1, qM2, qM3⟩, ⟨fM0, fM1, fM2, fM3⟩, zM⟩ := HM.out
          go_wp2_with fail
          go_ret
          have hb := HB.out
          exact ⟨by first | rfl | simp, hb⟩
end Go.Proofs.Ytoenlpkphekbnaa
