/-
  The laws' conversions of cones and tetrahedra (own work).
-/
import Derived.Test.YtjjblgmokmalaaaSpM
import Derived.Test.YtjjblgmokmalaaaSpC
namespace Go.Proofs.Ytjjblgmokmalaaa
open Go.ChangeShapes Go.WideShapes Go.ChangeAt Go.RowKit
set_option linter.unusedVariables false
set_option linter.unusedSimpArgs false
set_option maxRecDepth 100000

set_option maxHeartbeats 3200000 in
theorem toCone_any (c0 c1 c2 c3 c4 c5 c6 c7 c8 : Int) (w : World) : Calls Try.prog 10 #[.agg #[.int .i64 c0, .int .i64 c1, .int .i64 c2, .int .i64 c3, .int .i64 c4, .int .i64 c5, .int .i64 c6, .int .i64 c7, .int .i64 c8]] w fun e w' => e = .returned (.agg #[.int .i64 c0, .int .i64 c1, .int .i64 c2, .int .i64 c3, .int .i64 c4, .int .i64 c5, .int .i64 c6, .int .i64 c7, .int .i64 c8]) ∧ Below w.heap.size w w' := by
  obtain ⟨GC, hG⟩ : ∃ G, w.heap.size = G := ⟨_, rfl⟩
  have HG := Lib.hid hG
  go_enter Try.func10, Try.ntmps10
  go_upto_region 1 with fail
  obtain ⟨w0, hw0⟩ : ∃ w0, w0 = ((w.alloc (.cells #[.int .i64 c0, .int .i64 c1, .int .i64 c2, .int .i64 c3, .int .i64 c4, .int .i64 c5, .int .i64 c6, .int .i64 c7, .int .i64 c8] 27)).alloc (.cells #[.int .i64 0, .int .i64 0, .int .i64 0, .int .i64 0, .int .i64 0, .int .i64 0, .int .i64 0, .int .i64 0, .int .i64 0] 30)) := ⟨_, rfl⟩
  rw [← hw0]
  have HC : Hid (Bk9 w0 GC c0 c1 c2 c3 c4 c5 c6 c7 c8) := by
    have h := (bk9_new w c0 c1 c2 c3 c4 c5 c6 c7 c8 27).below (W' := ((w.alloc (.cells #[.int .i64 c0, .int .i64 c1, .int .i64 c2, .int .i64 c3, .int .i64 c4, .int .i64 c5, .int .i64 c6, .int .i64 c7, .int .i64 c8] 27)).alloc (.cells #[.int .i64 0, .int .i64 0, .int .i64 0, .int .i64 0, .int .i64 0, .int .i64 0, .int .i64 0, .int .i64 0, .int .i64 0] 30))) (by (repeat' (first | (with_reducible exact Below.refl _ _) | (with_reducible refine Below.alloc ?_ ?_ _) | (with_reducible refine Below.setCell ?_ ?_ _) | (with_reducible refine Below.drew ?_) | (with_reducible refine below_drewN ?_ _) | (with_reducible assumption) | (with_reducible refine below_after (by with_reducible assumption) ?_) | go_size)))
    (try simp only [World.size_alloc] at h)
    rw [hG] at h
    rw [hw0]; exact h
  have HR : Hid (Bk9 w0 (GC + 1) 0 0 0 0 0 0 0 0 0) := by
    have h := (bk9_new (w.alloc (.cells #[.int .i64 c0, .int .i64 c1, .int .i64 c2, .int .i64 c3, .int .i64 c4, .int .i64 c5, .int .i64 c6, .int .i64 c7, .int .i64 c8] 27)) 0 0 0 0 0 0 0 0 0 30).below (W' := ((w.alloc (.cells #[.int .i64 c0, .int .i64 c1, .int .i64 c2, .int .i64 c3, .int .i64 c4, .int .i64 c5, .int .i64 c6, .int .i64 c7, .int .i64 c8] 27)).alloc (.cells #[.int .i64 0, .int .i64 0, .int .i64 0, .int .i64 0, .int .i64 0, .int .i64 0, .int .i64 0, .int .i64 0, .int .i64 0] 30))) (by (repeat' (first | (with_reducible exact Below.refl _ _) | (with_reducible refine Below.alloc ?_ ?_ _) | (with_reducible refine Below.setCell ?_ ?_ _) | (with_reducible refine Below.drew ?_) | (with_reducible refine below_drewN ?_ _) | (with_reducible assumption) | (with_reducible refine below_after (by with_reducible assumption) ?_) | go_size)))
    (try simp only [World.size_alloc] at h)
    rw [hG] at h
    rw [hw0]; exact h
  have HB : Hid (Below w.heap.size w w0) := by show Below w.heap.size w w0; rw [hw0]; (repeat' (first | (with_reducible exact Below.refl _ _) | (with_reducible refine Below.alloc ?_ ?_ _) | (with_reducible refine Below.setCell ?_ ?_ _) | (with_reducible refine Below.drew ?_) | (with_reducible refine below_drewN ?_ _) | (with_reducible assumption) | (with_reducible refine below_after (by with_reducible assumption) ?_) | go_size))
  clear hw0
  obtain ⟨GR, hGR⟩ : ∃ g, GC + 1 = g := ⟨_, rfl⟩
  rw [hGR] at HR ⊢
  have le_C : w.heap.size ≤ GC := by omega
  have le_R : w.heap.size ≤ GR := by omega
  have ne_R_C : GR ≠ GC := by omega
  have ne_C_R : GC ≠ GR := by omega
  clear hGR
  obtain ⟨⟨qC0, qC1, qC2, qC3, qC4, qC5, qC6, qC7, qC8⟩, ⟨fC0, fC1, fC2, fC3, fC4, fC5, fC6, fC7, fC8⟩, zC⟩ := HC.out
  obtain ⟨⟨qR0, qR1, qR2, qR3, qR4, qR5, qR6, qR7, qR8⟩, ⟨fR0, fR1, fR2, fR3, fR4, fR5, fR6, fR7, fR8⟩, zR⟩ := HR.out
  go_upto_region 2 with fail
  obtain ⟨GO, hGO⟩ : ∃ g, w0.heap.size = g := ⟨_, rfl⟩
  obtain ⟨w1, hw1⟩ : ∃ wx, wx = w0.alloc (.cells #[.int .i64 0, .int .i64 0, .int .i64 0, .int .i64 0, .int .i64 0, .int .i64 0, .int .i64 0, .int .i64 0, .int .i64 0] 30) := ⟨_, rfl⟩
  rw [← hw1, hGO]
  have HO : Hid (Bk9 w1 GO 0 0 0 0 0 0 0 0 0) := by rw [hw1, ← hGO]; exact bk9_new w0 0 0 0 0 0 0 0 0 0 _
  have le_O : w.heap.size ≤ GO := by rw [← hGO]; exact HB.out.size
  have ne_O_C : GO ≠ GC := by have := HC.out.2.2; omega
  have ne_C_O : GC ≠ GO := Ne.symm ne_O_C
  have ne_O_R : GO ≠ GR := by have := HR.out.2.2; omega
  have ne_R_O : GR ≠ GO := Ne.symm ne_O_R
  clear qC0 fC0 qC1 fC1 qC2 fC2 qC3 fC3 qC4 fC4 qC5 fC5 qC6 fC6 qC7 fC7 qC8 fC8 zC qR0 fR0 qR1 fR1 qR2 fR2 qR3 fR3 qR4 fR4 qR5 fR5 qR6 fR6 qR7 fR7 qR8 fR8 zR
  have HC := Lib.hid (HC.out.below ((Below.refl _ _).alloc (Nat.le_refl _) (.cells #[.int .i64 0, .int .i64 0, .int .i64 0, .int .i64 0, .int .i64 0, .int .i64 0, .int .i64 0, .int .i64 0, .int .i64 0] 30)))
  have HR := Lib.hid (HR.out.below ((Below.refl _ _).alloc (Nat.le_refl _) (.cells #[.int .i64 0, .int .i64 0, .int .i64 0, .int .i64 0, .int .i64 0, .int .i64 0, .int .i64 0, .int .i64 0, .int .i64 0] 30)))
  have HB := Lib.hid (Below.alloc HB.out HB.out.size (.cells #[.int .i64 0, .int .i64 0, .int .i64 0, .int .i64 0, .int .i64 0, .int .i64 0, .int .i64 0, .int .i64 0, .int .i64 0] 30))
  rw [← hw1] at HC HR HB
  clear hw1 hGO
  obtain ⟨⟨qC0, qC1, qC2, qC3, qC4, qC5, qC6, qC7, qC8⟩, ⟨fC0, fC1, fC2, fC3, fC4, fC5, fC6, fC7, fC8⟩, zC⟩ := HC.out
  obtain ⟨⟨qR0, qR1, qR2, qR3, qR4, qR5, qR6, qR7, qR8⟩, ⟨fR0, fR1, fR2, fR3, fR4, fR5, fR6, fR7, fR8⟩, zR⟩ := HR.out
  obtain ⟨⟨qO0, qO1, qO2, qO3, qO4, qO5, qO6, qO7, qO8⟩, ⟨fO0, fO1, fO2, fO3, fO4, fO5, fO6, fO7, fO8⟩, zO⟩ := HO.out
  go_wp2_with fail
  clear qC0 fC0 qC1 fC1 qC2 fC2 qC3 fC3 qC4 fC4 qC5 fC5 qC6 fC6 qC7 fC7 qC8 fC8 zC qR0 fR0 qR1 fR1 qR2 fR2 qR3 fR3 qR4 fR4 qR5 fR5 qR6 fR6 qR7 fR7 qR8 fR8 zR qO0 fO0 qO1 fO1 qO2 fO2 qO3 fO3 qO4 fO4 qO5 fO5 qO6 fO6 qO7 fO7 qO8 fO8 zO
  have HNE : Hid (GO ≠ GC ∧ GC ≠ GO ∧ GO ≠ GR ∧ GR ≠ GO ∧ w.heap.size ≤ GO) := ⟨ne_O_C, ne_C_O, ne_O_R, ne_R_O, le_O⟩
  go_loopw [4] (fun y wr => ∃ i : Nat, y = .int .i64 (i : Int) ∧ i ≤ 3 ∧ (match i with | 0 => Bk9 wr GO 0 0 0 0 0 0 0 0 0 | 1 => Bk9 wr GO c0 c1 c2 0 0 0 0 0 0 | 2 => Bk9 wr GO c0 c1 c2 c3 c4 c5 0 0 0 | _ => Bk9 wr GO c0 c1 c2 c3 c4 c5 c6 c7 c8) ∧ Bk9 wr GC c0 c1 c2 c3 c4 c5 c6 c7 c8 ∧ Bk9 wr GR 0 0 0 0 0 0 0 0 0 ∧ Below w.heap.size w wr) (fun y _ => 3 - (intOf y).toNat)
  case atStart => exact ⟨0, rfl, by omega, HO.out, HC.out, HR.out, HB.out⟩
  case round =>
    obtain ⟨i, rfl, hi, hO, hC, hR, hbel⟩ := hrel
    clear HO HC HR HB
    have HO0 := Lib.hid hO
    have HC := Lib.hid hC
    have HR := Lib.hid hR
    have HB := Lib.hid hbel
    clear hO hC hR hbel
    rcases (show i = 0 ∨ i = 1 ∨ i = 2 ∨ i = 3 by omega) with rfl | rfl | rfl | rfl
    · rw [show ((0 : Nat) : Int) = 0 from rfl]
      have HO : Hid (Bk9 wr GO 0 0 0 0 0 0 0 0 0) := HO0.out
      clear HO0
      obtain ⟨ne_O_C, ne_C_O, ne_O_R, ne_R_O, le_O⟩ := HNE.out
      obtain ⟨⟨qO0, qO1, qO2, qO3, qO4, qO5, qO6, qO7, qO8⟩, ⟨fO0, fO1, fO2, fO3, fO4, fO5, fO6, fO7, fO8⟩, zO⟩ := HO.out
      obtain ⟨⟨qC0, qC1, qC2, qC3, qC4, qC5, qC6, qC7, qC8⟩, ⟨fC0, fC1, fC2, fC3, fC4, fC5, fC6, fC7, fC8⟩, zC⟩ := HC.out
      obtain ⟨⟨qR0, qR1, qR2, qR3, qR4, qR5, qR6, qR7, qR8⟩, ⟨fR0, fR1, fR2, fR3, fR4, fR5, fR6, fR7, fR8⟩, zR⟩ := HR.out
      go_wp2_with fail
      go_at_call 7
      refine (toSpot_any _ _ _ _).mono ?_
      rintro e w41 ⟨rfl, hb⟩
      clear qO0 fO0 qO1 fO1 qO2 fO2 qO3 fO3 qO4 fO4 qO5 fO5 qO6 fO6 qO7 fO7 qO8 fO8 zO qC0 fC0 qC1 fC1 qC2 fC2 qC3 fC3 qC4 fC4 qC5 fC5 qC6 fC6 qC7 fC7 qC8 fC8 zC qR0 fR0 qR1 fR1 qR2 fR2 qR3 fR3 qR4 fR4 qR5 fR5 qR6 fR6 qR7 fR7 qR8 fR8 zR
      have HO := Lib.hid (HO.out.below hb)
      have HC := Lib.hid (HC.out.below hb)
      have HR := Lib.hid (HR.out.below hb)
      have HB := Lib.hid (below_after hb HB.out)
      clear hb
      obtain ⟨⟨qO0, qO1, qO2, qO3, qO4, qO5, qO6, qO7, qO8⟩, ⟨fO0, fO1, fO2, fO3, fO4, fO5, fO6, fO7, fO8⟩, zO⟩ := HO.out
      obtain ⟨⟨qC0, qC1, qC2, qC3, qC4, qC5, qC6, qC7, qC8⟩, ⟨fC0, fC1, fC2, fC3, fC4, fC5, fC6, fC7, fC8⟩, zC⟩ := HC.out
      obtain ⟨⟨qR0, qR1, qR2, qR3, qR4, qR5, qR6, qR7, qR8⟩, ⟨fR0, fR1, fR2, fR3, fR4, fR5, fR6, fR7, fR8⟩, zR⟩ := HR.out
      go_wp2_with fail
      obtain ⟨w42, hw42⟩ : ∃ wx, wx = (((w41.setCell ⟨GO, 0, none⟩ (.int .i64 c0)).setCell ⟨GO, 1, none⟩ (.int .i64 c1)).setCell ⟨GO, 2, none⟩ (.int .i64 c2)) := ⟨_, rfl⟩
      rw [← hw42]
      clear qO0 fO0 qO1 fO1 qO2 fO2 qO3 fO3 qO4 fO4 qO5 fO5 qO6 fO6 qO7 fO7 qO8 fO8 zO qC0 fC0 qC1 fC1 qC2 fC2 qC3 fC3 qC4 fC4 qC5 fC5 qC6 fC6 qC7 fC7 qC8 fC8 zC qR0 fR0 qR1 fR1 qR2 fR2 qR3 fR3 qR4 fR4 qR5 fR5 qR6 fR6 qR7 fR7 qR8 fR8 zR
      have HC := Lib.hid (((HC.out.far ⟨GO, 0, none⟩ (.int .i64 c0) (by show GC ≠ GO; exact ne_C_O)).far ⟨GO, 1, none⟩ (.int .i64 c1) (by show GC ≠ GO; exact ne_C_O)).far ⟨GO, 2, none⟩ (.int .i64 c2) (by show GC ≠ GO; exact ne_C_O))
      have HR := Lib.hid (((HR.out.far ⟨GO, 0, none⟩ (.int .i64 c0) (by show GR ≠ GO; exact ne_R_O)).far ⟨GO, 1, none⟩ (.int .i64 c1) (by show GR ≠ GO; exact ne_R_O)).far ⟨GO, 2, none⟩ (.int .i64 c2) (by show GR ≠ GO; exact ne_R_O))
      have HO := Lib.hid (((HO.out.set0 c0).set1 c1).set2 c2)
      have HB := Lib.hid (Below.setCell (Below.setCell (Below.setCell HB.out (p := ⟨GO, 0, none⟩) le_O (.int .i64 c0)) (p := ⟨GO, 1, none⟩) le_O (.int .i64 c1)) (p := ⟨GO, 2, none⟩) le_O (.int .i64 c2))
      rw [← hw42] at HO HC HR HB
      clear hw42
      go_roundw
      case rel => exact ⟨0 + 1, by first | rfl | go_num, by omega, HO.out, HC.out, HR.out, HB.out⟩
      case measure => simp only [intOf]; omega
    · rw [show ((1 : Nat) : Int) = 1 from rfl]
      have HO : Hid (Bk9 wr GO c0 c1 c2 0 0 0 0 0 0) := HO0.out
      clear HO0
      obtain ⟨ne_O_C, ne_C_O, ne_O_R, ne_R_O, le_O⟩ := HNE.out
      obtain ⟨⟨qO0, qO1, qO2, qO3, qO4, qO5, qO6, qO7, qO8⟩, ⟨fO0, fO1, fO2, fO3, fO4, fO5, fO6, fO7, fO8⟩, zO⟩ := HO.out
      obtain ⟨⟨qC0, qC1, qC2, qC3, qC4, qC5, qC6, qC7, qC8⟩, ⟨fC0, fC1, fC2, fC3, fC4, fC5, fC6, fC7, fC8⟩, zC⟩ := HC.out
      obtain ⟨⟨qR0, qR1, qR2, qR3, qR4, qR5, qR6, qR7, qR8⟩, ⟨fR0, fR1, fR2, fR3, fR4, fR5, fR6, fR7, fR8⟩, zR⟩ := HR.out
      go_wp2_with fail
      go_at_call 7
      refine (toSpot_any _ _ _ _).mono ?_
      rintro e w61 ⟨rfl, hb⟩
      clear qO0 fO0 qO1 fO1 qO2 fO2 qO3 fO3 qO4 fO4 qO5 fO5 qO6 fO6 qO7 fO7 qO8 fO8 zO qC0 fC0 qC1 fC1 qC2 fC2 qC3 fC3 qC4 fC4 qC5 fC5 qC6 fC6 qC7 fC7 qC8 fC8 zC qR0 fR0 qR1 fR1 qR2 fR2 qR3 fR3 qR4 fR4 qR5 fR5 qR6 fR6 qR7 fR7 qR8 fR8 zR
      have HO := Lib.hid (HO.out.below hb)
      have HC := Lib.hid (HC.out.below hb)
      have HR := Lib.hid (HR.out.below hb)
      have HB := Lib.hid (below_after hb HB.out)
      clear hb
      obtain ⟨⟨qO0, qO1, qO2, qO3, qO4, qO5, qO6, qO7, qO8⟩, ⟨fO0, fO1, fO2, fO3, fO4, fO5, fO6, fO7, fO8⟩, zO⟩ := HO.out
      obtain ⟨⟨qC0, qC1, qC2, qC3, qC4, qC5, qC6, qC7, qC8⟩, ⟨fC0, fC1, fC2, fC3, fC4, fC5, fC6, fC7, fC8⟩, zC⟩ := HC.out
      obtain ⟨⟨qR0, qR1, qR2, qR3, qR4, qR5, qR6, qR7, qR8⟩, ⟨fR0, fR1, fR2, fR3, fR4, fR5, fR6, fR7, fR8⟩, zR⟩ := HR.out
      go_wp2_with fail
      obtain ⟨w62, hw62⟩ : ∃ wx, wx = (((w61.setCell ⟨GO, 3, none⟩ (.int .i64 c3)).setCell ⟨GO, 4, none⟩ (.int .i64 c4)).setCell ⟨GO, 5, none⟩ (.int .i64 c5)) := ⟨_, rfl⟩
      rw [← hw62]
      clear qO0 fO0 qO1 fO1 qO2 fO2 qO3 fO3 qO4 fO4 qO5 fO5 qO6 fO6 qO7 fO7 qO8 fO8 zO qC0 fC0 qC1 fC1 qC2 fC2 qC3 fC3 qC4 fC4 qC5 fC5 qC6 fC6 qC7 fC7 qC8 fC8 zC qR0 fR0 qR1 fR1 qR2 fR2 qR3 fR3 qR4 fR4 qR5 fR5 qR6 fR6 qR7 fR7 qR8 fR8 zR
      have HC := Lib.hid (((HC.out.far ⟨GO, 3, none⟩ (.int .i64 c3) (by show GC ≠ GO; exact ne_C_O)).far ⟨GO, 4, none⟩ (.int .i64 c4) (by show GC ≠ GO; exact ne_C_O)).far ⟨GO, 5, none⟩ (.int .i64 c5) (by show GC ≠ GO; exact ne_C_O))
      have HR := Lib.hid (((HR.out.far ⟨GO, 3, none⟩ (.int .i64 c3) (by show GR ≠ GO; exact ne_R_O)).far ⟨GO, 4, none⟩ (.int .i64 c4) (by show GR ≠ GO; exact ne_R_O)).far ⟨GO, 5, none⟩ (.int .i64 c5) (by show GR ≠ GO; exact ne_R_O))
      have HO := Lib.hid (((HO.out.set3 c3).set4 c4).set5 c5)
      have HB := Lib.hid (Below.setCell (Below.setCell (Below.setCell HB.out (p := ⟨GO, 3, none⟩) le_O (.int .i64 c3)) (p := ⟨GO, 4, none⟩) le_O (.int .i64 c4)) (p := ⟨GO, 5, none⟩) le_O (.int .i64 c5))
      rw [← hw62] at HO HC HR HB
      clear hw62
      go_roundw
      case rel => exact ⟨1 + 1, by first | rfl | go_num, by omega, HO.out, HC.out, HR.out, HB.out⟩
      case measure => simp only [intOf]; omega
    · rw [show ((2 : Nat) : Int) = 2 from rfl]
      have HO : Hid (Bk9 wr GO c0 c1 c2 c3 c4 c5 0 0 0) := HO0.out
      clear HO0
      obtain ⟨ne_O_C, ne_C_O, ne_O_R, ne_R_O, le_O⟩ := HNE.out
      obtain ⟨⟨qO0, qO1, qO2, qO3, qO4, qO5, qO6, qO7, qO8⟩, ⟨fO0, fO1, fO2, fO3, fO4, fO5, fO6, fO7, fO8⟩, zO⟩ := HO.out
      obtain ⟨⟨qC0, qC1, qC2, qC3, qC4, qC5, qC6, qC7, qC8⟩, ⟨fC0, fC1, fC2, fC3, fC4, fC5, fC6, fC7, fC8⟩, zC⟩ := HC.out
      obtain ⟨⟨qR0, qR1, qR2, qR3, qR4, qR5, qR6, qR7, qR8⟩, ⟨fR0, fR1, fR2, fR3, fR4, fR5, fR6, fR7, fR8⟩, zR⟩ := HR.out
      go_wp2_with fail
      go_at_call 7
      refine (toSpot_any _ _ _ _).mono ?_
      rintro e w81 ⟨rfl, hb⟩
      clear qO0 fO0 qO1 fO1 qO2 fO2 qO3 fO3 qO4 fO4 qO5 fO5 qO6 fO6 qO7 fO7 qO8 fO8 zO qC0 fC0 qC1 fC1 qC2 fC2 qC3 fC3 qC4 fC4 qC5 fC5 qC6 fC6 qC7 fC7 qC8 fC8 zC qR0 fR0 qR1 fR1 qR2 fR2 qR3 fR3 qR4 fR4 qR5 fR5 qR6 fR6 qR7 fR7 qR8 fR8 zR
      have HO := Lib.hid (HO.out.below hb)
      have HC := Lib.hid (HC.out.below hb)
      have HR := Lib.hid (HR.out.below hb)
      have HB := Lib.hid (below_after hb HB.out)
      clear hb
      obtain ⟨⟨qO0, qO1, qO2, qO3, qO4, qO5, qO6, qO7, qO8⟩, ⟨fO0, fO1, fO2, fO3, fO4, fO5, fO6, fO7, fO8⟩, zO⟩ := HO.out
      obtain ⟨⟨qC0, qC1, qC2, qC3, qC4, qC5, qC6, qC7, qC8⟩, ⟨fC0, fC1, fC2, fC3, fC4, fC5, fC6, fC7, fC8⟩, zC⟩ := HC.out
      obtain ⟨⟨qR0, qR1, qR2, qR3, qR4, qR5, qR6, qR7, qR8⟩, ⟨fR0, fR1, fR2, fR3, fR4, fR5, fR6, fR7, fR8⟩, zR⟩ := HR.out
      go_wp2_with fail
      obtain ⟨w82, hw82⟩ : ∃ wx, wx = (((w81.setCell ⟨GO, 6, none⟩ (.int .i64 c6)).setCell ⟨GO, 7, none⟩ (.int .i64 c7)).setCell ⟨GO, 8, none⟩ (.int .i64 c8)) := ⟨_, rfl⟩
      rw [← hw82]
      clear qO0 fO0 qO1 fO1 qO2 fO2 qO3 fO3 qO4 fO4 qO5 fO5 qO6 fO6 qO7 fO7 qO8 fO8 zO qC0 fC0 qC1 fC1 qC2 fC2 qC3 fC3 qC4 fC4 qC5 fC5 qC6 fC6 qC7 fC7 qC8 fC8 zC qR0 fR0 qR1 fR1 qR2 fR2 qR3 fR3 qR4 fR4 qR5 fR5 qR6 fR6 qR7 fR7 qR8 fR8 zR
      have HC := Lib.hid (((HC.out.far ⟨GO, 6, none⟩ (.int .i64 c6) (by show GC ≠ GO; exact ne_C_O)).far ⟨GO, 7, none⟩ (.int .i64 c7) (by show GC ≠ GO; exact ne_C_O)).far ⟨GO, 8, none⟩ (.int .i64 c8) (by show GC ≠ GO; exact ne_C_O))
      have HR := Lib.hid (((HR.out.far ⟨GO, 6, none⟩ (.int .i64 c6) (by show GR ≠ GO; exact ne_R_O)).far ⟨GO, 7, none⟩ (.int .i64 c7) (by show GR ≠ GO; exact ne_R_O)).far ⟨GO, 8, none⟩ (.int .i64 c8) (by show GR ≠ GO; exact ne_R_O))
      have HO := Lib.hid (((HO.out.set6 c6).set7 c7).set8 c8)
      have HB := Lib.hid (Below.setCell (Below.setCell (Below.setCell HB.out (p := ⟨GO, 6, none⟩) le_O (.int .i64 c6)) (p := ⟨GO, 7, none⟩) le_O (.int .i64 c7)) (p := ⟨GO, 8, none⟩) le_O (.int .i64 c8))
      rw [← hw82] at HO HC HR HB
      clear hw82
      go_roundw
      case rel => exact ⟨2 + 1, by first | rfl | go_num, by omega, HO.out, HC.out, HR.out, HB.out⟩
      case measure => simp only [intOf]; omega
    · rw [show ((3 : Nat) : Int) = 3 from rfl]
      have HO : Hid (Bk9 wr GO c0 c1 c2 c3 c4 c5 c6 c7 c8) := HO0.out
      clear HO0
      obtain ⟨ne_O_C, ne_C_O, ne_O_R, ne_R_O, le_O⟩ := HNE.out
      obtain ⟨⟨qO0, qO1, qO2, qO3, qO4, qO5, qO6, qO7, qO8⟩, ⟨fO0, fO1, fO2, fO3, fO4, fO5, fO6, fO7, fO8⟩, zO⟩ := HO.out
      obtain ⟨⟨qC0, qC1, qC2, qC3, qC4, qC5, qC6, qC7, qC8⟩, ⟨fC0, fC1, fC2, fC3, fC4, fC5, fC6, fC7, fC8⟩, zC⟩ := HC.out
      obtain ⟨⟨qR0, qR1, qR2, qR3, qR4, qR5, qR6, qR7, qR8⟩, ⟨fR0, fR1, fR2, fR3, fR4, fR5, fR6, fR7, fR8⟩, zR⟩ := HR.out
      go_wp2_with fail
      refine bodyPost_ret (v := .agg #[.int .i64 c0, .int .i64 c1, .int .i64 c2, .int .i64 c3, .int .i64 c4, .int .i64 c5, .int .i64 c6, .int .i64 c7, .int .i64 c8]) (by simp (maxDischargeDepth := 8) [results, Try.results10, go_sem, *]) rfl ?_
      have hb := HB.out
      exact ⟨rfl, by (repeat' (first | (with_reducible exact Below.refl _ _) | (with_reducible refine Below.alloc ?_ ?_ _) | (with_reducible refine Below.setCell ?_ ?_ _) | (with_reducible refine Below.drew ?_) | (with_reducible refine below_drewN ?_ _) | (with_reducible assumption) | (with_reducible refine below_after (by with_reducible assumption) ?_) | go_size))⟩
set_option maxHeartbeats 3200000 in
theorem toTetra_any (t0 t1 t2 t3 t4 t5 t6 t7 t8 t9 t10 t11 : Int) (w : World) : Calls Try.prog 13 #[.agg #[.int .i64 t0, .int .i64 t1, .int .i64 t2, .int .i64 t3, .int .i64 t4, .int .i64 t5, .int .i64 t6, .int .i64 t7, .int .i64 t8, .int .i64 t9, .int .i64 t10, .int .i64 t11]] w fun e w' => e = .returned (.agg #[.int .i64 t0, .int .i64 t1, .int .i64 t2, .int .i64 t3, .int .i64 t4, .int .i64 t5, .int .i64 t6, .int .i64 t7, .int .i64 t8, .int .i64 t9, .int .i64 t10, .int .i64 t11]) ∧ Below w.heap.size w w' := by
  obtain ⟨GC, hG⟩ : ∃ G, w.heap.size = G := ⟨_, rfl⟩
  have HG := Lib.hid hG
  go_enter Try.func13, Try.ntmps13
  go_upto_region 1 with fail
  obtain ⟨w0, hw0⟩ : ∃ w0, w0 = ((w.alloc (.cells #[.int .i64 t0, .int .i64 t1, .int .i64 t2, .int .i64 t3, .int .i64 t4, .int .i64 t5, .int .i64 t6, .int .i64 t7, .int .i64 t8, .int .i64 t9, .int .i64 t10, .int .i64 t11] 33)).alloc (.cells #[.int .i64 0, .int .i64 0, .int .i64 0, .int .i64 0, .int .i64 0, .int .i64 0, .int .i64 0, .int .i64 0, .int .i64 0, .int .i64 0, .int .i64 0, .int .i64 0] 36)) := ⟨_, rfl⟩
  rw [← hw0]
  have HC : Hid (Bk12 w0 GC t0 t1 t2 t3 t4 t5 t6 t7 t8 t9 t10 t11) := by
    have h := (bk12_new w t0 t1 t2 t3 t4 t5 t6 t7 t8 t9 t10 t11 33).below (W' := ((w.alloc (.cells #[.int .i64 t0, .int .i64 t1, .int .i64 t2, .int .i64 t3, .int .i64 t4, .int .i64 t5, .int .i64 t6, .int .i64 t7, .int .i64 t8, .int .i64 t9, .int .i64 t10, .int .i64 t11] 33)).alloc (.cells #[.int .i64 0, .int .i64 0, .int .i64 0, .int .i64 0, .int .i64 0, .int .i64 0, .int .i64 0, .int .i64 0, .int .i64 0, .int .i64 0, .int .i64 0, .int .i64 0] 36))) (by (repeat' (first | (with_reducible exact Below.refl _ _) | (with_reducible refine Below.alloc ?_ ?_ _) | (with_reducible refine Below.setCell ?_ ?_ _) | (with_reducible refine Below.drew ?_) | (with_reducible refine below_drewN ?_ _) | (with_reducible assumption) | (with_reducible refine below_after (by with_reducible assumption) ?_) | go_size)))
    (try simp only [World.size_alloc] at h)
    rw [hG] at h
    rw [hw0]; exact h
  have HR : Hid (Bk12 w0 (GC + 1) 0 0 0 0 0 0 0 0 0 0 0 0) := by
    have h := (bk12_new (w.alloc (.cells #[.int .i64 t0, .int .i64 t1, .int .i64 t2, .int .i64 t3, .int .i64 t4, .int .i64 t5, .int .i64 t6, .int .i64 t7, .int .i64 t8, .int .i64 t9, .int .i64 t10, .int .i64 t11] 33)) 0 0 0 0 0 0 0 0 0 0 0 0 36).below (W' := ((w.alloc (.cells #[.int .i64 t0, .int .i64 t1, .int .i64 t2, .int .i64 t3, .int .i64 t4, .int .i64 t5, .int .i64 t6, .int .i64 t7, .int .i64 t8, .int .i64 t9, .int .i64 t10, .int .i64 t11] 33)).alloc (.cells #[.int .i64 0, .int .i64 0, .int .i64 0, .int .i64 0, .int .i64 0, .int .i64 0, .int .i64 0, .int .i64 0, .int .i64 0, .int .i64 0, .int .i64 0, .int .i64 0] 36))) (by (repeat' (first | (with_reducible exact Below.refl _ _) | (with_reducible refine Below.alloc ?_ ?_ _) | (with_reducible refine Below.setCell ?_ ?_ _) | (with_reducible refine Below.drew ?_) | (with_reducible refine below_drewN ?_ _) | (with_reducible assumption) | (with_reducible refine below_after (by with_reducible assumption) ?_) | go_size)))
    (try simp only [World.size_alloc] at h)
    rw [hG] at h
    rw [hw0]; exact h
  have HB : Hid (Below w.heap.size w w0) := by show Below w.heap.size w w0; rw [hw0]; (repeat' (first | (with_reducible exact Below.refl _ _) | (with_reducible refine Below.alloc ?_ ?_ _) | (with_reducible refine Below.setCell ?_ ?_ _) | (with_reducible refine Below.drew ?_) | (with_reducible refine below_drewN ?_ _) | (with_reducible assumption) | (with_reducible refine below_after (by with_reducible assumption) ?_) | go_size))
  clear hw0
  obtain ⟨GR, hGR⟩ : ∃ g, GC + 1 = g := ⟨_, rfl⟩
  rw [hGR] at HR ⊢
  have le_C : w.heap.size ≤ GC := by omega
  have le_R : w.heap.size ≤ GR := by omega
  have ne_R_C : GR ≠ GC := by omega
  have ne_C_R : GC ≠ GR := by omega
  clear hGR
  obtain ⟨⟨qC0, qC1, qC2, qC3, qC4, qC5, qC6, qC7, qC8, qC9, qC10, qC11⟩, ⟨fC0, fC1, fC2, fC3, fC4, fC5, fC6, fC7, fC8, fC9, fC10, fC11⟩, zC⟩ := HC.out
  obtain ⟨⟨qR0, qR1, qR2, qR3, qR4, qR5, qR6, qR7, qR8, qR9, qR10, qR11⟩, ⟨fR0, fR1, fR2, fR3, fR4, fR5, fR6, fR7, fR8, fR9, fR10, fR11⟩, zR⟩ := HR.out
  go_upto_region 2 with fail
  obtain ⟨GO, hGO⟩ : ∃ g, w0.heap.size = g := ⟨_, rfl⟩
  obtain ⟨w1, hw1⟩ : ∃ wx, wx = w0.alloc (.cells #[.int .i64 0, .int .i64 0, .int .i64 0, .int .i64 0, .int .i64 0, .int .i64 0, .int .i64 0, .int .i64 0, .int .i64 0, .int .i64 0, .int .i64 0, .int .i64 0] 36) := ⟨_, rfl⟩
  rw [← hw1, hGO]
  have HO : Hid (Bk12 w1 GO 0 0 0 0 0 0 0 0 0 0 0 0) := by rw [hw1, ← hGO]; exact bk12_new w0 0 0 0 0 0 0 0 0 0 0 0 0 _
  have le_O : w.heap.size ≤ GO := by rw [← hGO]; exact HB.out.size
  have ne_O_C : GO ≠ GC := by have := HC.out.2.2; omega
  have ne_C_O : GC ≠ GO := Ne.symm ne_O_C
  have ne_O_R : GO ≠ GR := by have := HR.out.2.2; omega
  have ne_R_O : GR ≠ GO := Ne.symm ne_O_R
  clear qC0 fC0 qC1 fC1 qC2 fC2 qC3 fC3 qC4 fC4 qC5 fC5 qC6 fC6 qC7 fC7 qC8 fC8 qC9 fC9 qC10 fC10 qC11 fC11 zC qR0 fR0 qR1 fR1 qR2 fR2 qR3 fR3 qR4 fR4 qR5 fR5 qR6 fR6 qR7 fR7 qR8 fR8 qR9 fR9 qR10 fR10 qR11 fR11 zR
  have HC := Lib.hid (HC.out.below ((Below.refl _ _).alloc (Nat.le_refl _) (.cells #[.int .i64 0, .int .i64 0, .int .i64 0, .int .i64 0, .int .i64 0, .int .i64 0, .int .i64 0, .int .i64 0, .int .i64 0, .int .i64 0, .int .i64 0, .int .i64 0] 36)))
  have HR := Lib.hid (HR.out.below ((Below.refl _ _).alloc (Nat.le_refl _) (.cells #[.int .i64 0, .int .i64 0, .int .i64 0, .int .i64 0, .int .i64 0, .int .i64 0, .int .i64 0, .int .i64 0, .int .i64 0, .int .i64 0, .int .i64 0, .int .i64 0] 36)))
  have HB := Lib.hid (Below.alloc HB.out HB.out.size (.cells #[.int .i64 0, .int .i64 0, .int .i64 0, .int .i64 0, .int .i64 0, .int .i64 0, .int .i64 0, .int .i64 0, .int .i64 0, .int .i64 0, .int .i64 0, .int .i64 0] 36))
  rw [← hw1] at HC HR HB
  clear hw1 hGO
  obtain ⟨⟨qC0, qC1, qC2, qC3, qC4, qC5, qC6, qC7, qC8, qC9, qC10, qC11⟩, ⟨fC0, fC1, fC2, fC3, fC4, fC5, fC6, fC7, fC8, fC9, fC10, fC11⟩, zC⟩ := HC.out
  obtain ⟨⟨qR0, qR1, qR2, qR3, qR4, qR5, qR6, qR7, qR8, qR9, qR10, qR11⟩, ⟨fR0, fR1, fR2, fR3, fR4, fR5, fR6, fR7, fR8, fR9, fR10, fR11⟩, zR⟩ := HR.out
  obtain ⟨⟨qO0, qO1, qO2, qO3, qO4, qO5, qO6, qO7, qO8, qO9, qO10, qO11⟩, ⟨fO0, fO1, fO2, fO3, fO4, fO5, fO6, fO7, fO8, fO9, fO10, fO11⟩, zO⟩ := HO.out
  go_wp2_with fail
  clear qC0 fC0 qC1 fC1 qC2 fC2 qC3 fC3 qC4 fC4 qC5 fC5 qC6 fC6 qC7 fC7 qC8 fC8 qC9 fC9 qC10 fC10 qC11 fC11 zC qR0 fR0 qR1 fR1 qR2 fR2 qR3 fR3 qR4 fR4 qR5 fR5 qR6 fR6 qR7 fR7 qR8 fR8 qR9 fR9 qR10 fR10 qR11 fR11 zR qO0 fO0 qO1 fO1 qO2 fO2 qO3 fO3 qO4 fO4 qO5 fO5 qO6 fO6 qO7 fO7 qO8 fO8 qO9 fO9 qO10 fO10 qO11 fO11 zO
  have HNE : Hid (GO ≠ GC ∧ GC ≠ GO ∧ GO ≠ GR ∧ GR ≠ GO ∧ w.heap.size ≤ GO) := ⟨ne_O_C, ne_C_O, ne_O_R, ne_R_O, le_O⟩
  go_loopw [4] (fun y wr => ∃ i : Nat, y = .int .i64 (i : Int) ∧ i ≤ 4 ∧ (match i with | 0 => Bk12 wr GO 0 0 0 0 0 0 0 0 0 0 0 0 | 1 => Bk12 wr GO t0 t1 t2 0 0 0 0 0 0 0 0 0 | 2 => Bk12 wr GO t0 t1 t2 t3 t4 t5 0 0 0 0 0 0 | 3 => Bk12 wr GO t0 t1 t2 t3 t4 t5 t6 t7 t8 0 0 0 | _ => Bk12 wr GO t0 t1 t2 t3 t4 t5 t6 t7 t8 t9 t10 t11) ∧ Bk12 wr GC t0 t1 t2 t3 t4 t5 t6 t7 t8 t9 t10 t11 ∧ Bk12 wr GR 0 0 0 0 0 0 0 0 0 0 0 0 ∧ Below w.heap.size w wr) (fun y _ => 4 - (intOf y).toNat)
  case atStart => exact ⟨0, rfl, by omega, HO.out, HC.out, HR.out, HB.out⟩
  case round =>
    obtain ⟨i, rfl, hi, hO, hC, hR, hbel⟩ := hrel
    clear HO HC HR HB
    have HO0 := Lib.hid hO
    have HC := Lib.hid hC
    have HR := Lib.hid hR
    have HB := Lib.hid hbel
    clear hO hC hR hbel
    rcases (show i = 0 ∨ i = 1 ∨ i = 2 ∨ i = 3 ∨ i = 4 by omega) with rfl | rfl | rfl | rfl | rfl
    · rw [show ((0 : Nat) : Int) = 0 from rfl]
      have HO : Hid (Bk12 wr GO 0 0 0 0 0 0 0 0 0 0 0 0) := HO0.out
      clear HO0
      obtain ⟨ne_O_C, ne_C_O, ne_O_R, ne_R_O, le_O⟩ := HNE.out
      obtain ⟨⟨qO0, qO1, qO2, qO3, qO4, qO5, qO6, qO7, qO8, qO9, qO10, qO11⟩, ⟨fO0, fO1, fO2, fO3, fO4, fO5, fO6, fO7, fO8, fO9, fO10, fO11⟩, zO⟩ := HO.out
      obtain ⟨⟨qC0, qC1, qC2, qC3, qC4, qC5, qC6, qC7, qC8, qC9, qC10, qC11⟩, ⟨fC0, fC1, fC2, fC3, fC4, fC5, fC6, fC7, fC8, fC9, fC10, fC11⟩, zC⟩ := HC.out
      obtain ⟨⟨qR0, qR1, qR2, qR3, qR4, qR5, qR6, qR7, qR8, qR9, qR10, qR11⟩, ⟨fR0, fR1, fR2, fR3, fR4, fR5, fR6, fR7, fR8, fR9, fR10, fR11⟩, zR⟩ := HR.out
      go_wp2_with fail
      go_at_call 7
      refine (toSpot_any _ _ _ _).mono ?_
      rintro e w41 ⟨rfl, hb⟩
      clear qO0 fO0 qO1 fO1 qO2 fO2 qO3 fO3 qO4 fO4 qO5 fO5 qO6 fO6 qO7 fO7 qO8 fO8 qO9 fO9 qO10 fO10 qO11 fO11 zO qC0 fC0 qC1 fC1 qC2 fC2 qC3 fC3 qC4 fC4 qC5 fC5 qC6 fC6 qC7 fC7 qC8 fC8 qC9 fC9 qC10 fC10 qC11 fC11 zC qR0 fR0 qR1 fR1 qR2 fR2 qR3 fR3 qR4 fR4 qR5 fR5 qR6 fR6 qR7 fR7 qR8 fR8 qR9 fR9 qR10 fR10 qR11 fR11 zR
      have HO := Lib.hid (HO.out.below hb)
      have HC := Lib.hid (HC.out.below hb)
      have HR := Lib.hid (HR.out.below hb)
      have HB := Lib.hid (below_after hb HB.out)
      clear hb
      obtain ⟨⟨qO0, qO1, qO2, qO3, qO4, qO5, qO6, qO7, qO8, qO9, qO10, qO11⟩, ⟨fO0, fO1, fO2, fO3, fO4, fO5, fO6, fO7, fO8, fO9, fO10, fO11⟩, zO⟩ := HO.out
      obtain ⟨⟨qC0, qC1, qC2, qC3, qC4, qC5, qC6, qC7, qC8, qC9, qC10, qC11⟩, ⟨fC0, fC1, fC2, fC3, fC4, fC5, fC6, fC7, fC8, fC9, fC10, fC11⟩, zC⟩ := HC.out
      obtain ⟨⟨qR0, qR1, qR2, qR3, qR4, qR5, qR6, qR7, qR8, qR9, qR10, qR11⟩, ⟨fR0, fR1, fR2, fR3, fR4, fR5, fR6, fR7, fR8, fR9, fR10, fR11⟩, zR⟩ := HR.out
      go_wp2_with fail
      obtain ⟨w42, hw42⟩ : ∃ wx, wx = (((w41.setCell ⟨GO, 0, none⟩ (.int .i64 t0)).setCell ⟨GO, 1, none⟩ (.int .i64 t1)).setCell ⟨GO, 2, none⟩ (.int .i64 t2)) := ⟨_, rfl⟩
      rw [← hw42]
      clear qO0 fO0 qO1 fO1 qO2 fO2 qO3 fO3 qO4 fO4 qO5 fO5 qO6 fO6 qO7 fO7 qO8 fO8 qO9 fO9 qO10 fO10 qO11 fO11 zO qC0 fC0 qC1 fC1 qC2 fC2 qC3 fC3 qC4 fC4 qC5 fC5 qC6 fC6 qC7 fC7 qC8 fC8 qC9 fC9 qC10 fC10 qC11 fC11 zC qR0 fR0 qR1 fR1 qR2 fR2 qR3 fR3 qR4 fR4 qR5 fR5 qR6 fR6 qR7 fR7 qR8 fR8 qR9 fR9 qR10 fR10 qR11 fR11 zR
      have HC := Lib.hid (((HC.out.far ⟨GO, 0, none⟩ (.int .i64 t0) (by show GC ≠ GO; exact ne_C_O)).far ⟨GO, 1, none⟩ (.int .i64 t1) (by show GC ≠ GO; exact ne_C_O)).far ⟨GO, 2, none⟩ (.int .i64 t2) (by show GC ≠ GO; exact ne_C_O))
      have HR := Lib.hid (((HR.out.far ⟨GO, 0, none⟩ (.int .i64 t0) (by show GR ≠ GO; exact ne_R_O)).far ⟨GO, 1, none⟩ (.int .i64 t1) (by show GR ≠ GO; exact ne_R_O)).far ⟨GO, 2, none⟩ (.int .i64 t2) (by show GR ≠ GO; exact ne_R_O))
      have HO := Lib.hid (((HO.out.set0 t0).set1 t1).set2 t2)
      have HB := Lib.hid (Below.setCell (Below.setCell (Below.setCell HB.out (p := ⟨GO, 0, none⟩) le_O (.int .i64 t0)) (p := ⟨GO, 1, none⟩) le_O (.int .i64 t1)) (p := ⟨GO, 2, none⟩) le_O (.int .i64 t2))
      rw [← hw42] at HO HC HR HB
      clear hw42
      go_roundw
      case rel => exact ⟨0 + 1, by first | rfl | go_num, by omega, HO.out, HC.out, HR.out, HB.out⟩
      case measure => simp only [intOf]; omega
    · rw [show ((1 : Nat) : Int) = 1 from rfl]
      have HO : Hid (Bk12 wr GO t0 t1 t2 0 0 0 0 0 0 0 0 0) := HO0.out
      clear HO0
      obtain ⟨ne_O_C, ne_C_O, ne_O_R, ne_R_O, le_O⟩ := HNE.out
      obtain ⟨⟨qO0, qO1, qO2, qO3, qO4, qO5, qO6, qO7, qO8, qO9, qO10, qO11⟩, ⟨fO0, fO1, fO2, fO3, fO4, fO5, fO6, fO7, fO8, fO9, fO10, fO11⟩, zO⟩ := HO.out
      obtain ⟨⟨qC0, qC1, qC2, qC3, qC4, qC5, qC6, qC7, qC8, qC9, qC10, qC11⟩, ⟨fC0, fC1, fC2, fC3, fC4, fC5, fC6, fC7, fC8, fC9, fC10, fC11⟩, zC⟩ := HC.out
      obtain ⟨⟨qR0, qR1, qR2, qR3, qR4, qR5, qR6, qR7, qR8, qR9, qR10, qR11⟩, ⟨fR0, fR1, fR2, fR3, fR4, fR5, fR6, fR7, fR8, fR9, fR10, fR11⟩, zR⟩ := HR.out
      go_wp2_with fail
      go_at_call 7
      refine (toSpot_any _ _ _ _).mono ?_
      rintro e w61 ⟨rfl, hb⟩
      clear qO0 fO0 qO1 fO1 qO2 fO2 qO3 fO3 qO4 fO4 qO5 fO5 qO6 fO6 qO7 fO7 qO8 fO8 qO9 fO9 qO10 fO10 qO11 fO11 zO qC0 fC0 qC1 fC1 qC2 fC2 qC3 fC3 qC4 fC4 qC5 fC5 qC6 fC6 qC7 fC7 qC8 fC8 qC9 fC9 qC10 fC10 qC11 fC11 zC qR0 fR0 qR1 fR1 qR2 fR2 qR3 fR3 qR4 fR4 qR5 fR5 qR6 fR6 qR7 fR7 qR8 fR8 qR9 fR9 qR10 fR10 qR11 fR11 zR
      have HO := Lib.hid (HO.out.below hb)
      have HC := Lib.hid (HC.out.below hb)
      have HR := Lib.hid (HR.out.below hb)
      have HB := Lib.hid (below_after hb HB.out)
      clear hb
      obtain ⟨⟨qO0, qO1, qO2, qO3, qO4, qO5, qO6, qO7, qO8, qO9, qO10, qO11⟩, ⟨fO0, fO1, fO2, fO3, fO4, fO5, fO6, fO7, fO8, fO9, fO10, fO11⟩, zO⟩ := HO.out
      obtain ⟨⟨qC0, qC1, qC2, qC3, qC4, qC5, qC6, qC7, qC8, qC9, qC10, qC11⟩, ⟨fC0, fC1, fC2, fC3, fC4, fC5, fC6, fC7, fC8, fC9, fC10, fC11⟩, zC⟩ := HC.out
      obtain ⟨⟨qR0, qR1, qR2, qR3, qR4, qR5, qR6, qR7, qR8, qR9, qR10, qR11⟩, ⟨fR0, fR1, fR2, fR3, fR4, fR5, fR6, fR7, fR8, fR9, fR10, fR11⟩, zR⟩ := HR.out
      go_wp2_with fail
      obtain ⟨w62, hw62⟩ : ∃ wx, wx = (((w61.setCell ⟨GO, 3, none⟩ (.int .i64 t3)).setCell ⟨GO, 4, none⟩ (.int .i64 t4)).setCell ⟨GO, 5, none⟩ (.int .i64 t5)) := ⟨_, rfl⟩
      rw [← hw62]
      clear qO0 fO0 qO1 fO1 qO2 fO2 qO3 fO3 qO4 fO4 qO5 fO5 qO6 fO6 qO7 fO7 qO8 fO8 qO9 fO9 qO10 fO10 qO11 fO11 zO qC0 fC0 qC1 fC1 qC2 fC2 qC3 fC3 qC4 fC4 qC5 fC5 qC6 fC6 qC7 fC7 qC8 fC8 qC9 fC9 qC10 fC10 qC11 fC11 zC qR0 fR0 qR1 fR1 qR2 fR2 qR3 fR3 qR4 fR4 qR5 fR5 qR6 fR6 qR7 fR7 qR8 fR8 qR9 fR9 qR10 fR10 qR11 fR11 zR
      have HC := Lib.hid (((HC.out.far ⟨GO, 3, none⟩ (.int .i64 t3) (by show GC ≠ GO; exact ne_C_O)).far ⟨GO, 4, none⟩ (.int .i64 t4) (by show GC ≠ GO; exact ne_C_O)).far ⟨GO, 5, none⟩ (.int .i64 t5) (by show GC ≠ GO; exact ne_C_O))
      have HR := Lib.hid (((HR.out.far ⟨GO, 3, none⟩ (.int .i64 t3) (by show GR ≠ GO; exact ne_R_O)).far ⟨GO, 4, none⟩ (.int .i64 t4) (by show GR ≠ GO; exact ne_R_O)).far ⟨GO, 5, none⟩ (.int .i64 t5) (by show GR ≠ GO; exact ne_R_O))
      have HO := Lib.hid (((HO.out.set3 t3).set4 t4).set5 t5)
      have HB := Lib.hid (Below.setCell (Below.setCell (Below.setCell HB.out (p := ⟨GO, 3, none⟩) le_O (.int .i64 t3)) (p := ⟨GO, 4, none⟩) le_O (.int .i64 t4)) (p := ⟨GO, 5, none⟩) le_O (.int .i64 t5))
      rw [← hw62] at HO HC HR HB
      clear hw62
      go_roundw
      case rel => exact ⟨1 + 1, by first | rfl | go_num, by omega, HO.out, HC.out, HR.out, HB.out⟩
      case measure => simp only [intOf]; omega
    · rw [show ((2 : Nat) : Int) = 2 from rfl]
      have HO : Hid (Bk12 wr GO t0 t1 t2 t3 t4 t5 0 0 0 0 0 0) := HO0.out
      clear HO0
      obtain ⟨ne_O_C, ne_C_O, ne_O_R, ne_R_O, le_O⟩ := HNE.out
      obtain ⟨⟨qO0, qO1, qO2, qO3, qO4, qO5, qO6, qO7, qO8, qO9, qO10, qO11⟩, ⟨fO0, fO1, fO2, fO3, fO4, fO5, fO6, fO7, fO8, fO9, fO10, fO11⟩, zO⟩ := HO.out
      obtain ⟨⟨qC0, qC1, qC2, qC3, qC4, qC5, qC6, qC7, qC8, qC9, qC10, qC11⟩, ⟨fC0, fC1, fC2, fC3, fC4, fC5, fC6, fC7, fC8, fC9, fC10, fC11⟩, zC⟩ := HC.out
      obtain ⟨⟨qR0, qR1, qR2, qR3, qR4, qR5, qR6, qR7, qR8, qR9, qR10, qR11⟩, ⟨fR0, fR1, fR2, fR3, fR4, fR5, fR6, fR7, fR8, fR9, fR10, fR11⟩, zR⟩ := HR.out
      go_wp2_with fail
      go_at_call 7
      refine (toSpot_any _ _ _ _).mono ?_
      rintro e w81 ⟨rfl, hb⟩
      clear qO0 fO0 qO1 fO1 qO2 fO2 qO3 fO3 qO4 fO4 qO5 fO5 qO6 fO6 qO7 fO7 qO8 fO8 qO9 fO9 qO10 fO10 qO11 fO11 zO qC0 fC0 qC1 fC1 qC2 fC2 qC3 fC3 qC4 fC4 qC5 fC5 qC6 fC6 qC7 fC7 qC8 fC8 qC9 fC9 qC10 fC10 qC11 fC11 zC qR0 fR0 qR1 fR1 qR2 fR2 qR3 fR3 qR4 fR4 qR5 fR5 qR6 fR6 qR7 fR7 qR8 fR8 qR9 fR9 qR10 fR10 qR11 fR11 zR
      have HO := Lib.hid (HO.out.below hb)
      have HC := Lib.hid (HC.out.below hb)
      have HR := Lib.hid (HR.out.below hb)
      have HB := Lib.hid (below_after hb HB.out)
      clear hb
      obtain ⟨⟨qO0, qO1, qO2, qO3, qO4, qO5, qO6, qO7, qO8, qO9, qO10, qO11⟩, ⟨fO0, fO1, fO2, fO3, fO4, fO5, fO6, fO7, fO8, fO9, fO10, fO11⟩, zO⟩ := HO.out
      obtain ⟨⟨qC0, qC1, qC2, qC3, qC4, qC5, qC6, qC7, qC8, qC9, qC10, qC11⟩, ⟨fC0, fC1, fC2, fC3, fC4, fC5, fC6, fC7, fC8, fC9, fC10, fC11⟩, zC⟩ := HC.out
      obtain ⟨⟨qR0, qR1, qR2, qR3, qR4, qR5, qR6, qR7, qR8, qR9, qR10, qR11⟩, ⟨fR0, fR1, fR2, fR3, fR4, fR5, fR6, fR7, fR8, fR9, fR10, fR11⟩, zR⟩ := HR.out
      go_wp2_with fail
      obtain ⟨w82, hw82⟩ : ∃ wx, wx = (((w81.setCell ⟨GO, 6, none⟩ (.int .i64 t6)).setCell ⟨GO, 7, none⟩ (.int .i64 t7)).setCell ⟨GO, 8, none⟩ (.int .i64 t8)) := ⟨_, rfl⟩
      rw [← hw82]
      clear qO0 fO0 qO1 fO1 qO2 fO2 qO3 fO3 qO4 fO4 qO5 fO5 qO6 fO6 qO7 fO7 qO8 fO8 qO9 fO9 qO10 fO10 qO11 fO11 zO qC0 fC0 qC1 fC1 qC2 fC2 qC3 fC3 qC4 fC4 qC5 fC5 qC6 fC6 qC7 fC7 qC8 fC8 qC9 fC9 qC10 fC10 qC11 fC11 zC qR0 fR0 qR1 fR1 qR2 fR2 qR3 fR3 qR4 fR4 qR5 fR5 qR6 fR6 qR7 fR7 qR8 fR8 qR9 fR9 qR10 fR10 qR11 fR11 zR
      have HC := Lib.hid (((HC.out.far ⟨GO, 6, none⟩ (.int .i64 t6) (by show GC ≠ GO; exact ne_C_O)).far ⟨GO, 7, none⟩ (.int .i64 t7) (by show GC ≠ GO; exact ne_C_O)).far ⟨GO, 8, none⟩ (.int .i64 t8) (by show GC ≠ GO; exact ne_C_O))
      have HR := Lib.hid (((HR.out.far ⟨GO, 6, none⟩ (.int .i64 t6) (by show GR ≠ GO; exact ne_R_O)).far ⟨GO, 7, none⟩ (.int .i64 t7) (by show GR ≠ GO; exact ne_R_O)).far ⟨GO, 8, none⟩ (.int .i64 t8) (by show GR ≠ GO; exact ne_R_O))
      have HO := Lib.hid (((HO.out.set6 t6).set7 t7).set8 t8)
      have HB := Lib.hid (Below.setCell (Below.setCell (Below.setCell HB.out (p := ⟨GO, 6, none⟩) le_O (.int .i64 t6)) (p := ⟨GO, 7, none⟩) le_O (.int .i64 t7)) (p := ⟨GO, 8, none⟩) le_O (.int .i64 t8))
      rw [← hw82] at HO HC HR HB
      clear hw82
      go_roundw
      case rel => exact ⟨2 + 1, by first | rfl | go_num, by omega, HO.out, HC.out, HR.out, HB.out⟩
      case measure => simp only [intOf]; omega
    · rw [show ((3 : Nat) : Int) = 3 from rfl]
      have HO : Hid (Bk12 wr GO t0 t1 t2 t3 t4 t5 t6 t7 t8 0 0 0) := HO0.out
      clear HO0
      obtain ⟨ne_O_C, ne_C_O, ne_O_R, ne_R_O, le_O⟩ := HNE.out
      obtain ⟨⟨qO0, qO1, qO2, qO3, qO4, qO5, qO6, qO7, qO8, qO9, qO10, qO11⟩, ⟨fO0, fO1, fO2, fO3, fO4, fO5, fO6, fO7, fO8, fO9, fO10, fO11⟩, zO⟩ := HO.out
      obtain ⟨⟨qC0, qC1, qC2, qC3, qC4, qC5, qC6, qC7, qC8, qC9, qC10, qC11⟩, ⟨fC0, fC1, fC2, fC3, fC4, fC5, fC6, fC7, fC8, fC9, fC10, fC11⟩, zC⟩ := HC.out
      obtain ⟨⟨qR0, qR1, qR2, qR3, qR4, qR5, qR6, qR7, qR8, qR9, qR10, qR11⟩, ⟨fR0, fR1, fR2, fR3, fR4, fR5, fR6, fR7, fR8, fR9, fR10, fR11⟩, zR⟩ := HR.out
      go_wp2_with fail
      go_at_call 7
      refine (toSpot_any _ _ _ _).mono ?_
      rintro e w101 ⟨rfl, hb⟩
      clear qO0 fO0 qO1 fO1 qO2 fO2 qO3 fO3 qO4 fO4 qO5 fO5 qO6 fO6 qO7 fO7 qO8 fO8 qO9 fO9 qO10 fO10 qO11 fO11 zO qC0 fC0 qC1 fC1 qC2 fC2 qC3 fC3 qC4 fC4 qC5 fC5 qC6 fC6 qC7 fC7 qC8 fC8 qC9 fC9 qC10 fC10 qC11 fC11 zC qR0 fR0 qR1 fR1 qR2 fR2 qR3 fR3 qR4 fR4 qR5 fR5 qR6 fR6 qR7 fR7 qR8 fR8 qR9 fR9 qR10 fR10 qR11 fR11 zR
      have HO := Lib.hid (HO.out.below hb)
      have HC := Lib.hid (HC.out.below hb)
      have HR := Lib.hid (HR.out.below hb)
      have HB := Lib.hid (below_after hb HB.out)
      clear hb
      obtain ⟨⟨qO0, qO1, qO2, qO3, qO4, qO5, qO6, qO7, qO8, qO9, qO10, qO11⟩, ⟨fO0, fO1, fO2, fO3, fO4, fO5, fO6, fO7, fO8, fO9, fO10, fO11⟩, zO⟩ := HO.out
      obtain ⟨⟨qC0, qC1, qC2, qC3, qC4, qC5, qC6, qC7, qC8, qC9, qC10, qC11⟩, ⟨fC0, fC1, fC2, fC3, fC4, fC5, fC6, fC7, fC8, fC9, fC10, fC11⟩, zC⟩ := HC.out
      obtain ⟨⟨qR0, qR1, qR2, qR3, qR4, qR5, qR6, qR7, qR8, qR9, qR10, qR11⟩, ⟨fR0, fR1, fR2, fR3, fR4, fR5, fR6, fR7, fR8, fR9, fR10, fR11⟩, zR⟩ := HR.out
      go_wp2_with fail
      obtain ⟨w102, hw102⟩ : ∃ wx, wx = (((w101.setCell ⟨GO, 9, none⟩ (.int .i64 t9)).setCell ⟨GO, 10, none⟩ (.int .i64 t10)).setCell ⟨GO, 11, none⟩ (.int .i64 t11)) := ⟨_, rfl⟩
      rw [← hw102]
      clear qO0 fO0 qO1 fO1 qO2 fO2 qO3 fO3 qO4 fO4 qO5 fO5 qO6 fO6 qO7 fO7 qO8 fO8 qO9 fO9 qO10 fO10 qO11 fO11 zO qC0 fC0 qC1 fC1 qC2 fC2 qC3 fC3 qC4 fC4 qC5 fC5 qC6 fC6 qC7 fC7 qC8 fC8 qC9 fC9 qC10 fC10 qC11 fC11 zC qR0 fR0 qR1 fR1 qR2 fR2 qR3 fR3 qR4 fR4 qR5 fR5 qR6 fR6 qR7 fR7 qR8 fR8 qR9 fR9 qR10 fR10 qR11 fR11 zR
      have HC := Lib.hid (((HC.out.far ⟨GO, 9, none⟩ (.int .i64 t9) (by show GC ≠ GO; exact ne_C_O)).far ⟨GO, 10, none⟩ (.int .i64 t10) (by show GC ≠ GO; exact ne_C_O)).far ⟨GO, 11, none⟩ (.int .i64 t11) (by show GC ≠ GO; exact ne_C_O))
      have HR := Lib.hid (((HR.out.far ⟨GO, 9, none⟩ (.int .i64 t9) (by show GR ≠ GO; exact ne_R_O)).far ⟨GO, 10, none⟩ (.int .i64 t10) (by show GR ≠ GO; exact ne_R_O)).far ⟨GO, 11, none⟩ (.int .i64 t11) (by show GR ≠ GO; exact ne_R_O))
      have HO := Lib.hid (((HO.out.set9 t9).set10 t10).set11 t11)
      have HB := Lib.hid (Below.setCell (Below.setCell (Below.setCell HB.out (p := ⟨GO, 9, none⟩) le_O (.int .i64 t9)) (p := ⟨GO, 10, none⟩) le_O (.int .i64 t10)) (p := ⟨GO, 11, none⟩) le_O (.int .i64 t11))
      rw [← hw102] at HO HC HR HB
      clear hw102
      go_roundw
      case rel => exact ⟨3 + 1, by first | rfl | go_num, by omega, HO.out, HC.out, HR.out, HB.out⟩
      case measure => simp only [intOf]; omega
    · rw [show ((4 : Nat) : Int) = 4 from rfl]
      have HO : Hid (Bk12 wr GO t0 t1 t2 t3 t4 t5 t6 t7 t8 t9 t10 t11) := HO0.out
      clear HO0
      obtain ⟨ne_O_C, ne_C_O, ne_O_R, ne_R_O, le_O⟩ := HNE.out
      obtain ⟨⟨qO0, qO1, qO2, qO3, qO4, qO5, qO6, qO7, qO8, qO9, qO10, qO11⟩, ⟨fO0, fO1, fO2, fO3, fO4, fO5, fO6, fO7, fO8, fO9, fO10, fO11⟩, zO⟩ := HO.out
      obtain ⟨⟨qC0, qC1, qC2, qC3, qC4, qC5, qC6, qC7, qC8, qC9, qC10, qC11⟩, ⟨fC0, fC1, fC2, fC3, fC4, fC5, fC6, fC7, fC8, fC9, fC10, fC11⟩, zC⟩ := HC.out
      obtain ⟨⟨qR0, qR1, qR2, qR3, qR4, qR5, qR6, qR7, qR8, qR9, qR10, qR11⟩, ⟨fR0, fR1, fR2, fR3, fR4, fR5, fR6, fR7, fR8, fR9, fR10, fR11⟩, zR⟩ := HR.out
      go_wp2_with fail
      refine bodyPost_ret (v := .agg #[.int .i64 t0, .int .i64 t1, .int .i64 t2, .int .i64 t3, .int .i64 t4, .int .i64 t5, .int .i64 t6, .int .i64 t7, .int .i64 t8, .int .i64 t9, .int .i64 t10, .int .i64 t11]) (by simp (maxDischargeDepth := 8) [results, Try.results13, go_sem, *]) rfl ?_
      have hb := HB.out
      exact ⟨rfl, by (repeat' (first | (with_reducible exact Below.refl _ _) | (with_reducible refine Below.alloc ?_ ?_ _) | (with_reducible refine Below.setCell ?_ ?_ _) | (with_reducible refine Below.drew ?_) | (with_reducible refine below_drewN ?_ _) | (with_reducible assumption) | (with_reducible refine below_after (by with_reducible assumption) ?_) | go_size))⟩
end Go.Proofs.Ytjjblgmokmalaaa
