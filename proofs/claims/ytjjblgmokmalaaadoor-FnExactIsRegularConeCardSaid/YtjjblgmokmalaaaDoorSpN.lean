/-
  The normals of a cone, and what is inside (own work).
-/
import Derived.Test.YtjjblgmokmalaaaDoorSpI
namespace Go.Proofs.YtjjblgmokmalaaaDoor
open Go.ChangeShapes Go.WideShapes Go.ChangeAt Go.RowKit
set_option linter.unusedVariables false
set_option maxRecDepth 100000
set_option linter.unusedSimpArgs false
set_option maxRecDepth 100000

theorem info_spot : (Tryd.prog.info? 26).map (fun i => (i.zero, i.size, i.bytes)) = some (some (.agg #[.int .i64 0, .int .i64 0, .int .i64 0]), 3, 24) := by kernel_rfl
theorem make3 (w : World) : (Instr.makeSlice 46 (.int .i64 3) (.int .i64 3)).run Tryd.prog w = .ok (.slice (some ⟨w.heap.size, 0, none⟩) 3 3) (w.alloc (.cells #[.int .i64 0, .int .i64 0, .int .i64 0, .int .i64 0, .int .i64 0, .int .i64 0, .int .i64 0, .int .i64 0, .int .i64 0] 26)) := by
  obtain ⟨i0, hi, hz0, hz1, hz2⟩ := info_parts info_spot
  rw [run_make w 46 26 i0 _ Tryd.underlying46 hi hz0 .i64 .i64 3 3 (by omega) (by omega) (by rw [hz2]; omega) (by omega)]
  rw [hz1, show madeCells (Value.agg #[.int .i64 0, .int .i64 0, .int .i64 0]).cells (Int.toNat 3 * 3) = #[.int .i64 0, .int .i64 0, .int .i64 0, .int .i64 0, .int .i64 0, .int .i64 0, .int .i64 0, .int .i64 0, .int .i64 0] by kernel_rfl]
  rfl
set_option maxHeartbeats 3200000 in
theorem normalsOf_any (c0 c1 c2 c3 c4 c5 c6 c7 c8 : Int) (w : World) (g0 : W3 100000 c0 c1 c2) (g1 : W3 100000 c3 c4 c5) (g2 : W3 100000 c6 c7 c8) :
    Calls Tryd.prog 62 #[.agg #[.int .i64 c0, .int .i64 c1, .int .i64 c2, .int .i64 c3, .int .i64 c4, .int .i64 c5, .int .i64 c6, .int .i64 c7, .int .i64 c8]] w fun e w' => ∃ g, e = .returned (.slice (some ⟨g, 0, none⟩) 3 3) ∧ Bk9 w' g (sgV (detV c0 c1 c2 c3 c4 c5 c6 c7 c8) * (crX c3 c4 c5 c6 c7 c8)) (sgV (detV c0 c1 c2 c3 c4 c5 c6 c7 c8) * (crY c3 c4 c5 c6 c7 c8)) (sgV (detV c0 c1 c2 c3 c4 c5 c6 c7 c8) * (crZ c3 c4 c5 c6 c7 c8)) (sgV (detV c0 c1 c2 c3 c4 c5 c6 c7 c8) * (crX c6 c7 c8 c0 c1 c2)) (sgV (detV c0 c1 c2 c3 c4 c5 c6 c7 c8) * (crY c6 c7 c8 c0 c1 c2)) (sgV (detV c0 c1 c2 c3 c4 c5 c6 c7 c8) * (crZ c6 c7 c8 c0 c1 c2)) (sgV (detV c0 c1 c2 c3 c4 c5 c6 c7 c8) * (crX c0 c1 c2 c3 c4 c5)) (sgV (detV c0 c1 c2 c3 c4 c5 c6 c7 c8) * (crY c0 c1 c2 c3 c4 c5)) (sgV (detV c0 c1 c2 c3 c4 c5 c6 c7 c8) * (crZ c0 c1 c2 c3 c4 c5)) ∧ w.heap.size ≤ g ∧ Below w.heap.size w w' := by
  obtain ⟨D, hD⟩ : ∃ D, (detV c0 c1 c2 c3 c4 c5 c6 c7 c8) = D := ⟨_, rfl⟩
  have HD : Hid (∀ w, Calls Tryd.prog 54 #[.agg #[.int .i64 c0, .int .i64 c1, .int .i64 c2, .int .i64 c3, .int .i64 c4, .int .i64 c5, .int .i64 c6, .int .i64 c7, .int .i64 c8]] w fun e w' => e = .returned (.int .i64 D) ∧ Below w.heap.size w w') := fun w => by have := determinantOfRays_any c0 c1 c2 c3 c4 c5 c6 c7 c8 w g0 g1 g2; rwa [hD] at this
  have HX0 : Hid (W3 100000000000 (crX c3 c4 c5 c6 c7 c8) (crY c3 c4 c5 c6 c7 c8) (crZ c3 c4 c5 c6 c7 c8)) := (g1.cr g2).up (by omega)
  have HC0 : Hid (∀ w, Calls Tryd.prog 50 #[.agg #[.int .i64 c3, .int .i64 c4, .int .i64 c5], .agg #[.int .i64 c6, .int .i64 c7, .int .i64 c8]] w fun e w' => e = .returned (.agg #[.int .i64 (crX c3 c4 c5 c6 c7 c8), .int .i64 (crY c3 c4 c5 c6 c7 c8), .int .i64 (crZ c3 c4 c5 c6 c7 c8)]) ∧ Below w.heap.size w w') := fun w => crossOf_any c3 c4 c5 c6 c7 c8 w (g1.up (by omega)) (g2.up (by omega))
  have HX1 : Hid (W3 100000000000 (crX c6 c7 c8 c0 c1 c2) (crY c6 c7 c8 c0 c1 c2) (crZ c6 c7 c8 c0 c1 c2)) := (g2.cr g0).up (by omega)
  have HC1 : Hid (∀ w, Calls Tryd.prog 50 #[.agg #[.int .i64 c6, .int .i64 c7, .int .i64 c8], .agg #[.int .i64 c0, .int .i64 c1, .int .i64 c2]] w fun e w' => e = .returned (.agg #[.int .i64 (crX c6 c7 c8 c0 c1 c2), .int .i64 (crY c6 c7 c8 c0 c1 c2), .int .i64 (crZ c6 c7 c8 c0 c1 c2)]) ∧ Below w.heap.size w w') := fun w => crossOf_any c6 c7 c8 c0 c1 c2 w (g2.up (by omega)) (g0.up (by omega))
  have HX2 : Hid (W3 100000000000 (crX c0 c1 c2 c3 c4 c5) (crY c0 c1 c2 c3 c4 c5) (crZ c0 c1 c2 c3 c4 c5)) := (g0.cr g1).up (by omega)
  have HC2 : Hid (∀ w, Calls Tryd.prog 50 #[.agg #[.int .i64 c0, .int .i64 c1, .int .i64 c2], .agg #[.int .i64 c3, .int .i64 c4, .int .i64 c5]] w fun e w' => e = .returned (.agg #[.int .i64 (crX c0 c1 c2 c3 c4 c5), .int .i64 (crY c0 c1 c2 c3 c4 c5), .int .i64 (crZ c0 c1 c2 c3 c4 c5)]) ∧ Below w.heap.size w w') := fun w => crossOf_any c0 c1 c2 c3 c4 c5 w (g0.up (by omega)) (g1.up (by omega))
  rw [hD]
  clear g0 g1 g2 hD
  generalize crX c3 c4 c5 c6 c7 c8 = X0 at *
  generalize crY c3 c4 c5 c6 c7 c8 = Y0 at *
  generalize crZ c3 c4 c5 c6 c7 c8 = Z0 at *
  generalize crX c6 c7 c8 c0 c1 c2 = X1 at *
  generalize crY c6 c7 c8 c0 c1 c2 = Y1 at *
  generalize crZ c6 c7 c8 c0 c1 c2 = Z1 at *
  generalize crX c0 c1 c2 c3 c4 c5 = X2 at *
  generalize crY c0 c1 c2 c3 c4 c5 = Y2 at *
  generalize crZ c0 c1 c2 c3 c4 c5 = Z2 at *
  have wn0 : IntKind.i64.wrap 0 = 0 := by decide
  have wn1 : IntKind.i64.wrap 1 = 1 := by decide
  have wn2 : IntKind.i64.wrap 2 = 2 := by decide
  have wn3 : IntKind.i64.wrap 3 = 3 := by decide
  have wn4 : IntKind.i64.wrap 4 = 4 := by decide
  by_cases hneg : D < 0
  · have hsg : sgV D = -1 := if_pos hneg
    obtain ⟨V0, hV0⟩ : ∃ V, 0 + (-1) * X0 = V := ⟨_, rfl⟩
    have HR0 : Hid (sgV D * X0 = V0) := by show _ = _; rw [hsg, ← hV0]; omega
    obtain ⟨V1, hV1⟩ : ∃ V, 0 + (-1) * Y0 = V := ⟨_, rfl⟩
    have HR1 : Hid (sgV D * Y0 = V1) := by show _ = _; rw [hsg, ← hV1]; omega
    obtain ⟨V2, hV2⟩ : ∃ V, 0 + (-1) * Z0 = V := ⟨_, rfl⟩
    have HR2 : Hid (sgV D * Z0 = V2) := by show _ = _; rw [hsg, ← hV2]; omega
    have HP0 : Hid (∀ w, Calls Tryd.prog 96 #[.agg #[.int .i64 0, .int .i64 0, .int .i64 0], .agg #[.int .i64 X0, .int .i64 Y0, .int .i64 Z0], .int .i64 (-1)] w fun e w' => e = .returned (.agg #[.int .i64 V0, .int .i64 V1, .int .i64 V2]) ∧ Below w.heap.size w w') := fun w => by have := spotPlusTimes_any 0 0 0 X0 Y0 Z0 (-1) w (W3.zero _ (by omega)) HX0.out (by unfold Wi; omega); rwa [hV0, hV1, hV2] at this
    clear hV0 hV1 hV2
    obtain ⟨V3, hV3⟩ : ∃ V, 0 + (-1) * X1 = V := ⟨_, rfl⟩
    have HR3 : Hid (sgV D * X1 = V3) := by show _ = _; rw [hsg, ← hV3]; omega
    obtain ⟨V4, hV4⟩ : ∃ V, 0 + (-1) * Y1 = V := ⟨_, rfl⟩
    have HR4 : Hid (sgV D * Y1 = V4) := by show _ = _; rw [hsg, ← hV4]; omega
    obtain ⟨V5, hV5⟩ : ∃ V, 0 + (-1) * Z1 = V := ⟨_, rfl⟩
    have HR5 : Hid (sgV D * Z1 = V5) := by show _ = _; rw [hsg, ← hV5]; omega
    have HP1 : Hid (∀ w, Calls Tryd.prog 96 #[.agg #[.int .i64 0, .int .i64 0, .int .i64 0], .agg #[.int .i64 X1, .int .i64 Y1, .int .i64 Z1], .int .i64 (-1)] w fun e w' => e = .returned (.agg #[.int .i64 V3, .int .i64 V4, .int .i64 V5]) ∧ Below w.heap.size w w') := fun w => by have := spotPlusTimes_any 0 0 0 X1 Y1 Z1 (-1) w (W3.zero _ (by omega)) HX1.out (by unfold Wi; omega); rwa [hV3, hV4, hV5] at this
    clear hV3 hV4 hV5
    obtain ⟨V6, hV6⟩ : ∃ V, 0 + (-1) * X2 = V := ⟨_, rfl⟩
    have HR6 : Hid (sgV D * X2 = V6) := by show _ = _; rw [hsg, ← hV6]; omega
    obtain ⟨V7, hV7⟩ : ∃ V, 0 + (-1) * Y2 = V := ⟨_, rfl⟩
    have HR7 : Hid (sgV D * Y2 = V7) := by show _ = _; rw [hsg, ← hV7]; omega
    obtain ⟨V8, hV8⟩ : ∃ V, 0 + (-1) * Z2 = V := ⟨_, rfl⟩
    have HR8 : Hid (sgV D * Z2 = V8) := by show _ = _; rw [hsg, ← hV8]; omega
    have HP2 : Hid (∀ w, Calls Tryd.prog 96 #[.agg #[.int .i64 0, .int .i64 0, .int .i64 0], .agg #[.int .i64 X2, .int .i64 Y2, .int .i64 Z2], .int .i64 (-1)] w fun e w' => e = .returned (.agg #[.int .i64 V6, .int .i64 V7, .int .i64 V8]) ∧ Below w.heap.size w w') := fun w => by have := spotPlusTimes_any 0 0 0 X2 Y2 Z2 (-1) w (W3.zero _ (by omega)) HX2.out (by unfold Wi; omega); rwa [hV6, hV7, hV8] at this
    clear hV6 hV7 hV8
    clear hsg
    obtain ⟨GC, hG⟩ : ∃ G, w.heap.size = G := ⟨_, rfl⟩
    have HG := Lib.hid hG
    go_enter Tryd.func62, Tryd.ntmps62
    go_upto_region 1 with fail
    obtain ⟨w0, hw0⟩ : ∃ w0, w0 = (w.alloc (.cells #[.int .i64 c0, .int .i64 c1, .int .i64 c2, .int .i64 c3, .int .i64 c4, .int .i64 c5, .int .i64 c6, .int .i64 c7, .int .i64 c8] 39)) := ⟨_, rfl⟩
    rw [← hw0]
    have HC : Hid (Bk9 w0 GC c0 c1 c2 c3 c4 c5 c6 c7 c8) := by
      have h := (bk9_new w c0 c1 c2 c3 c4 c5 c6 c7 c8 39).below (W' := (w.alloc (.cells #[.int .i64 c0, .int .i64 c1, .int .i64 c2, .int .i64 c3, .int .i64 c4, .int .i64 c5, .int .i64 c6, .int .i64 c7, .int .i64 c8] 39))) (by (repeat' (first | (with_reducible exact Below.refl _ _) | (with_reducible refine Below.alloc ?_ ?_ _) | (with_reducible refine Below.setCell ?_ ?_ _) | (with_reducible refine Below.drew ?_) | (with_reducible refine below_drewN ?_ _) | (with_reducible assumption) | (with_reducible refine below_after (by with_reducible assumption) ?_) | go_size)))
      (try simp only [World.size_alloc] at h)
      rw [hG] at h
      rw [hw0]; exact h
    have HB : Hid (Below w.heap.size w w0) := by show Below w.heap.size w w0; rw [hw0]; (repeat' (first | (with_reducible exact Below.refl _ _) | (with_reducible refine Below.alloc ?_ ?_ _) | (with_reducible refine Below.setCell ?_ ?_ _) | (with_reducible refine Below.drew ?_) | (with_reducible refine below_drewN ?_ _) | (with_reducible assumption) | (with_reducible refine below_after (by with_reducible assumption) ?_) | go_size))
    clear hw0
    have le_C : w.heap.size ≤ GC := by omega
    obtain ⟨⟨qC0, qC1, qC2, qC3, qC4, qC5, qC6, qC7, qC8⟩, ⟨fC0, fC1, fC2, fC3, fC4, fC5, fC6, fC7, fC8⟩, zC⟩ := HC.out
    go_wp2_with fail
    go_at_call 54
    refine (HD.out _).mono ?_
    rintro e w1 ⟨rfl, hb⟩
    clear qC0 fC0 qC1 fC1 qC2 fC2 qC3 fC3 qC4 fC4 qC5 fC5 qC6 fC6 qC7 fC7 qC8 fC8 zC
    have HC := Lib.hid (HC.out.below hb)
    have HB := Lib.hid (below_after hb HB.out)
    clear hb
    have hmk := make3
    obtain ⟨⟨qC0, qC1, qC2, qC3, qC4, qC5, qC6, qC7, qC8⟩, ⟨fC0, fC1, fC2, fC3, fC4, fC5, fC6, fC7, fC8⟩, zC⟩ := HC.out
    go_upto_region 5 with fail
    obtain ⟨GO, hGO⟩ : ∃ g, w1.heap.size = g := ⟨_, rfl⟩
    obtain ⟨w2, hw2⟩ : ∃ wx, wx = w1.alloc (.cells #[.int .i64 0, .int .i64 0, .int .i64 0, .int .i64 0, .int .i64 0, .int .i64 0, .int .i64 0, .int .i64 0, .int .i64 0] 26) := ⟨_, rfl⟩
    rw [← hw2, hGO]
    have HO : Hid (Bk9 w2 GO 0 0 0 0 0 0 0 0 0) := by rw [hw2, ← hGO]; exact bk9_new w1 0 0 0 0 0 0 0 0 0 _
    have le_O : w.heap.size ≤ GO := by rw [← hGO]; exact HB.out.size
    have ne_O_C : GO ≠ GC := by have := HC.out.2.2; omega
    have ne_C_O : GC ≠ GO := Ne.symm ne_O_C
    clear qC0 fC0 qC1 fC1 qC2 fC2 qC3 fC3 qC4 fC4 qC5 fC5 qC6 fC6 qC7 fC7 qC8 fC8 zC
    have HC := Lib.hid (HC.out.below ((Below.refl _ _).alloc (Nat.le_refl _) (.cells #[.int .i64 0, .int .i64 0, .int .i64 0, .int .i64 0, .int .i64 0, .int .i64 0, .int .i64 0, .int .i64 0, .int .i64 0] 26)))
    have HB := Lib.hid (Below.alloc HB.out HB.out.size (.cells #[.int .i64 0, .int .i64 0, .int .i64 0, .int .i64 0, .int .i64 0, .int .i64 0, .int .i64 0, .int .i64 0, .int .i64 0] 26))
    rw [← hw2] at HC HB
    clear hw2 hGO
    obtain ⟨⟨qC0, qC1, qC2, qC3, qC4, qC5, qC6, qC7, qC8⟩, ⟨fC0, fC1, fC2, fC3, fC4, fC5, fC6, fC7, fC8⟩, zC⟩ := HC.out
    obtain ⟨⟨qO0, qO1, qO2, qO3, qO4, qO5, qO6, qO7, qO8⟩, ⟨fO0, fO1, fO2, fO3, fO4, fO5, fO6, fO7, fO8⟩, zO⟩ := HO.out
    go_wp2_with fail
    clear qC0 fC0 qC1 fC1 qC2 fC2 qC3 fC3 qC4 fC4 qC5 fC5 qC6 fC6 qC7 fC7 qC8 fC8 zC qO0 fO0 qO1 fO1 qO2 fO2 qO3 fO3 qO4 fO4 qO5 fO5 qO6 fO6 qO7 fO7 qO8 fO8 zO
    have HNE : Hid (GO ≠ GC ∧ GC ≠ GO ∧ w.heap.size ≤ GO) := ⟨ne_O_C, ne_C_O, le_O⟩
    go_loopw [10] (fun y wr => ∃ i : Nat, y = .int .i64 (i : Int) ∧ i ≤ 3 ∧ (match i with | 0 => Bk9 wr GO 0 0 0 0 0 0 0 0 0 | 1 => Bk9 wr GO V0 V1 V2 0 0 0 0 0 0 | 2 => Bk9 wr GO V0 V1 V2 V3 V4 V5 0 0 0 | _ => Bk9 wr GO V0 V1 V2 V3 V4 V5 V6 V7 V8) ∧ Bk9 wr GC c0 c1 c2 c3 c4 c5 c6 c7 c8 ∧ Below w.heap.size w wr) (fun y _ => 3 - (intOf y).toNat)
    case atStart => exact ⟨0, rfl, by omega, HO.out, HC.out, HB.out⟩
    case round =>
      obtain ⟨i, rfl, hi, hO, hC, hbel⟩ := hrel
      clear HO HC HB
      have HO0 := Lib.hid hO
      have HC := Lib.hid hC
      have HB := Lib.hid hbel
      clear hO hC hbel
      rcases (show i = 0 ∨ i = 1 ∨ i = 2 ∨ i = 3 by omega) with rfl | rfl | rfl | rfl
      · rw [show ((0 : Nat) : Int) = 0 from rfl]
        have HO : Hid (Bk9 wr GO 0 0 0 0 0 0 0 0 0) := HO0.out
        clear HO0
        obtain ⟨ne_O_C, ne_C_O, le_O⟩ := HNE.out
        obtain ⟨⟨qO0, qO1, qO2, qO3, qO4, qO5, qO6, qO7, qO8⟩, ⟨fO0, fO1, fO2, fO3, fO4, fO5, fO6, fO7, fO8⟩, zO⟩ := HO.out
        obtain ⟨⟨qC0, qC1, qC2, qC3, qC4, qC5, qC6, qC7, qC8⟩, ⟨fC0, fC1, fC2, fC3, fC4, fC5, fC6, fC7, fC8⟩, zC⟩ := HC.out
        go_upto_region 8 with fail
        clear qO0 fO0 qO1 fO1 qO2 fO2 qO3 fO3 qO4 fO4 qO5 fO5 qO6 fO6 qO7 fO7 qO8 fO8 zO qC0 fC0 qC1 fC1 qC2 fC2 qC3 fC3 qC4 fC4 qC5 fC5 qC6 fC6 qC7 fC7 qC8 fC8 zC
        go_wp2_with fail
        refine wp_region_held_drew (S := fun W => Below w.heap.size w W ∧ Bk9 W GC c0 c1 c2 c3 c4 c5 c6 c7 c8) (by kernel_rfl) ?_ (fun hHeld => ?_); focus ((try dsimp only); exact ⟨Below.drew HB.out, HC.out.below (Below.drew (Below.refl _ _))⟩)
        have HO := Lib.hid (HO.out.below (Below.drew (Below.refl _ _)))
        have HC := Lib.hid (HC.out.below (Below.drew (Below.refl _ _)))
        have hHeld : (fun W => Below w.heap.size w W ∧ Bk9 W GC c0 c1 c2 c3 c4 c5 c6 c7 c8) _ := hHeld
        obtain ⟨wD40, hwD40⟩ : ∃ wD, wr.drew = wD := ⟨_, rfl⟩
        rw [hwD40] at hHeld HO HC ⊢
        clear hwD40
        (refine wpAnyH_take (i := 0) (v := ?_) rfl (by kernel_rfl) (by kernel_rfl) (by kernel_rfl) (fun _ _ _ h => h) (Or.inl ⟨rfl, ?_⟩) (by assumption) ?_; rotate_left; focus (intro W hSw; (try dsimp only at hSw); obtain ⟨hSb, hxC⟩ := hSw; obtain ⟨⟨iC0, iC1, iC2, iC3, iC4, iC5, iC6, iC7, iC8⟩, _, _⟩ := hxC; go_simp; try (with_reducible rfl))); (try simp only [Act.put, List.getElem_toArray, List.getElem_cons_succ, List.getElem_cons_zero, List.setIfInBounds_toArray, List.set_cons_zero, List.set_cons_succ])
        (refine wpAnyH_take (i := 1) (v := ?_) rfl (by kernel_rfl) (by kernel_rfl) (by kernel_rfl) (fun _ _ _ h => h) (Or.inl ⟨rfl, ?_⟩) (by assumption) ?_; rotate_left; focus (intro W hSw; (try dsimp only at hSw); obtain ⟨hSb, hxC⟩ := hSw; obtain ⟨⟨iC0, iC1, iC2, iC3, iC4, iC5, iC6, iC7, iC8⟩, _, _⟩ := hxC; go_simp; try (with_reducible rfl))); (try simp only [Act.put, List.getElem_toArray, List.getElem_cons_succ, List.getElem_cons_zero, List.setIfInBounds_toArray, List.set_cons_zero, List.set_cons_succ])
        (refine wpAnyH_take (i := 2) (v := ?_) rfl (by kernel_rfl) (by kernel_rfl) (by kernel_rfl) (fun _ _ _ h => h) (Or.inl ⟨rfl, ?_⟩) (by assumption) ?_; rotate_left; focus (intro W hSw; (try dsimp only at hSw); obtain ⟨hSb, hxC⟩ := hSw; obtain ⟨⟨iC0, iC1, iC2, iC3, iC4, iC5, iC6, iC7, iC8⟩, _, _⟩ := hxC; go_simp; try (with_reducible rfl))); (try simp only [Act.put, List.getElem_toArray, List.getElem_cons_succ, List.getElem_cons_zero, List.setIfInBounds_toArray, List.set_cons_zero, List.set_cons_succ])
        (refine wpAnyH_take (i := 3) (v := ?_) rfl (by kernel_rfl) (by kernel_rfl) (by kernel_rfl) (fun _ _ _ h => h) (Or.inl ⟨rfl, ?_⟩) (by assumption) ?_; rotate_left; focus (intro W hSw; (try dsimp only at hSw); obtain ⟨hSb, hxC⟩ := hSw; obtain ⟨⟨iC0, iC1, iC2, iC3, iC4, iC5, iC6, iC7, iC8⟩, _, _⟩ := hxC; go_simp; try (with_reducible rfl))); (try simp only [Act.put, List.getElem_toArray, List.getElem_cons_succ, List.getElem_cons_zero, List.setIfInBounds_toArray, List.set_cons_zero, List.set_cons_succ])
        (refine wpAnyH_take (i := 4) (v := ?_) rfl (by kernel_rfl) (by kernel_rfl) (by kernel_rfl) (fun _ _ _ h => h) (Or.inl ⟨rfl, ?_⟩) (by assumption) ?_; rotate_left; focus (intro W hSw; (try dsimp only at hSw); obtain ⟨hSb, hxC⟩ := hSw; obtain ⟨⟨iC0, iC1, iC2, iC3, iC4, iC5, iC6, iC7, iC8⟩, _, _⟩ := hxC; go_simp; try (with_reducible rfl))); (try simp only [Act.put, List.getElem_toArray, List.getElem_cons_succ, List.getElem_cons_zero, List.setIfInBounds_toArray, List.set_cons_zero, List.set_cons_succ])
        (refine wpAnyH_take (i := 5) (v := ?_) rfl (by kernel_rfl) (by kernel_rfl) (by kernel_rfl) (fun _ _ _ h => h) (Or.inl ⟨rfl, ?_⟩) (by assumption) ?_; rotate_left; focus (intro W hSw; (try dsimp only at hSw); obtain ⟨hSb, hxC⟩ := hSw; obtain ⟨⟨iC0, iC1, iC2, iC3, iC4, iC5, iC6, iC7, iC8⟩, _, _⟩ := hxC; go_simp; try (with_reducible rfl))); (try simp only [Act.put, List.getElem_toArray, List.getElem_cons_succ, List.getElem_cons_zero, List.setIfInBounds_toArray, List.set_cons_zero, List.set_cons_succ])
        (refine wpAnyH_take (i := 6) (v := ?_) rfl (by kernel_rfl) (by kernel_rfl) (by kernel_rfl) (fun _ _ _ h => h) (Or.inl ⟨rfl, ?_⟩) (by assumption) ?_; rotate_left; focus (intro W hSw; (try dsimp only at hSw); obtain ⟨hSb, hxC⟩ := hSw; obtain ⟨⟨iC0, iC1, iC2, iC3, iC4, iC5, iC6, iC7, iC8⟩, _, _⟩ := hxC; go_simp; try (with_reducible rfl))); (try simp only [Act.put, List.getElem_toArray, List.getElem_cons_succ, List.getElem_cons_zero, List.setIfInBounds_toArray, List.set_cons_zero, List.set_cons_succ])
        (refine wpAnyH_take (i := 7) (v := ?_) rfl (by kernel_rfl) (by kernel_rfl) (by kernel_rfl) (fun _ _ _ h => h) (Or.inl ⟨rfl, ?_⟩) (by assumption) ?_; rotate_left; focus (intro W hSw; (try dsimp only at hSw); obtain ⟨hSb, hxC⟩ := hSw; obtain ⟨⟨iC0, iC1, iC2, iC3, iC4, iC5, iC6, iC7, iC8⟩, _, _⟩ := hxC; go_simp; try (with_reducible rfl))); (try simp only [Act.put, List.getElem_toArray, List.getElem_cons_succ, List.getElem_cons_zero, List.setIfInBounds_toArray, List.set_cons_zero, List.set_cons_succ])
        (refine wpAnyH_take (i := 8) (v := ?_) rfl (by kernel_rfl) (by kernel_rfl) (by kernel_rfl) (fun _ _ _ h => h) (Or.inl ⟨rfl, ?_⟩) (by assumption) ?_; rotate_left; focus (intro W hSw; (try dsimp only at hSw); obtain ⟨hSb, hxC⟩ := hSw; obtain ⟨⟨iC0, iC1, iC2, iC3, iC4, iC5, iC6, iC7, iC8⟩, _, _⟩ := hxC; go_simp; try (with_reducible rfl))); (try simp only [Act.put, List.getElem_toArray, List.getElem_cons_succ, List.getElem_cons_zero, List.setIfInBounds_toArray, List.set_cons_zero, List.set_cons_succ])
        (refine wpAnyH_take (i := 9) (v := ?_) rfl (by kernel_rfl) (by kernel_rfl) (by kernel_rfl) (fun _ _ _ h => h) (Or.inl ⟨rfl, ?_⟩) (by assumption) ?_; rotate_left; focus (intro W hSw; (try dsimp only at hSw); obtain ⟨hSb, hxC⟩ := hSw; obtain ⟨⟨iC0, iC1, iC2, iC3, iC4, iC5, iC6, iC7, iC8⟩, _, _⟩ := hxC; go_simp; try (with_reducible rfl))); (try simp only [Act.put, List.getElem_toArray, List.getElem_cons_succ, List.getElem_cons_zero, List.setIfInBounds_toArray, List.set_cons_zero, List.set_cons_succ])
        (refine wpAnyH_take (i := 10) (v := ?_) rfl (by kernel_rfl) (by kernel_rfl) (by kernel_rfl) (fun _ _ _ h => h) (Or.inl ⟨rfl, ?_⟩) (by assumption) ?_; rotate_left; focus (intro W hSw; (try dsimp only at hSw); obtain ⟨hSb, hxC⟩ := hSw; obtain ⟨⟨iC0, iC1, iC2, iC3, iC4, iC5, iC6, iC7, iC8⟩, _, _⟩ := hxC; go_simp; try (with_reducible rfl))); (try simp only [Act.put, List.getElem_toArray, List.getElem_cons_succ, List.getElem_cons_zero, List.setIfInBounds_toArray, List.set_cons_zero, List.set_cons_succ])
        (refine wpAnyH_take (i := 11) (v := ?_) rfl (by kernel_rfl) (by kernel_rfl) (by kernel_rfl) (fun _ _ _ h => h) (Or.inl ⟨rfl, ?_⟩) (by assumption) ?_; rotate_left; focus (intro W hSw; (try dsimp only at hSw); obtain ⟨hSb, hxC⟩ := hSw; obtain ⟨⟨iC0, iC1, iC2, iC3, iC4, iC5, iC6, iC7, iC8⟩, _, _⟩ := hxC; go_simp; try (with_reducible rfl))); (try simp only [Act.put, List.getElem_toArray, List.getElem_cons_succ, List.getElem_cons_zero, List.setIfInBounds_toArray, List.set_cons_zero, List.set_cons_succ])
        (refine wpAnyH_take (i := 12) (v := ?_) rfl (by kernel_rfl) (by kernel_rfl) (by kernel_rfl) (fun _ _ _ h => h) (Or.inl ⟨rfl, ?_⟩) (by assumption) ?_; rotate_left; focus (intro W hSw; (try dsimp only at hSw); obtain ⟨hSb, hxC⟩ := hSw; obtain ⟨⟨iC0, iC1, iC2, iC3, iC4, iC5, iC6, iC7, iC8⟩, _, _⟩ := hxC; go_simp; try (with_reducible rfl))); (try simp only [Act.put, List.getElem_toArray, List.getElem_cons_succ, List.getElem_cons_zero, List.setIfInBounds_toArray, List.set_cons_zero, List.set_cons_succ])
        (refine wpAnyH_take (i := 14) (v := ?_) rfl (by kernel_rfl) (by kernel_rfl) (by kernel_rfl) (fun _ _ _ h => h) (Or.inl ⟨rfl, ?_⟩) (by assumption) ?_; rotate_left; focus (intro W hSw; (try dsimp only at hSw); obtain ⟨hSb, hxC⟩ := hSw; obtain ⟨⟨iC0, iC1, iC2, iC3, iC4, iC5, iC6, iC7, iC8⟩, _, _⟩ := hxC; go_simp; try (with_reducible rfl))); (try simp only [Act.put, List.getElem_toArray, List.getElem_cons_succ, List.getElem_cons_zero, List.setIfInBounds_toArray, List.set_cons_zero, List.set_cons_succ])
        refine wpAnyH_ready (rs := [13]) (by kernel_rfl) (by simp) ?_; refine AllReadyH.cons rfl (fun K hK => ?_) AllReadyH.nil
        go_simp; (go_at_call 50; refine (HC0.out _).mono ?_; rintro en ywr40x0 ⟨rfl, hb2⟩); have HO := Lib.hid (HO.out.below hb2); have HC := Lib.hid (HC.out.below hb2); refine hK.out _ _ ⟨below_after hb2 hHeld.1, HC.out⟩ (fun hHeld2 => ?_); clear hb2; (clear hHeld; rename _ => hHeld; clear hK K; have hHeld : (fun W => Below w.heap.size w W ∧ Bk9 W GC c0 c1 c2 c3 c4 c5 c6 c7 c8) _ := hHeld); (try simp only [Act.put, List.getElem_toArray, List.getElem_cons_succ, List.getElem_cons_zero, List.setIfInBounds_toArray, List.set_cons_zero, List.set_cons_succ])
        refine wpAnyH_ready (rs := [15]) (by kernel_rfl) (by simp) ?_; refine AllReadyH.cons rfl (fun K hK => ?_) AllReadyH.nil
        go_simp; (go_at_call 96; refine (HP0.out _).mono ?_; rintro en ywr40x1 ⟨rfl, hb2⟩); have HO := Lib.hid (HO.out.below hb2); have HC := Lib.hid (HC.out.below hb2); refine hK.out _ _ ⟨below_after hb2 hHeld.1, HC.out⟩ (fun hHeld2 => ?_); clear hb2; (clear hHeld; rename _ => hHeld; clear hK K; have hHeld : (fun W => Below w.heap.size w W ∧ Bk9 W GC c0 c1 c2 c3 c4 c5 c6 c7 c8) _ := hHeld); (try simp only [Act.put, List.getElem_toArray, List.getElem_cons_succ, List.getElem_cons_zero, List.setIfInBounds_toArray, List.set_cons_zero, List.set_cons_succ])
        (refine wpAnyH_take (i := 16) (v := ?_) rfl (by kernel_rfl) (by kernel_rfl) (by kernel_rfl) (fun _ _ _ h => h) (Or.inl ⟨rfl, ?_⟩) (by assumption) ?_; rotate_left; focus (intro W hSw; (try dsimp only at hSw); obtain ⟨hSb, hxC⟩ := hSw; obtain ⟨⟨iC0, iC1, iC2, iC3, iC4, iC5, iC6, iC7, iC8⟩, _, _⟩ := hxC; go_simp; try (with_reducible rfl))); (try simp only [Act.put, List.getElem_toArray, List.getElem_cons_succ, List.getElem_cons_zero, List.setIfInBounds_toArray, List.set_cons_zero, List.set_cons_succ])
        refine wpAnyH_ready (rs := [17]) (by kernel_rfl) (by simp) ?_; refine AllReadyH.cons rfl (fun K hK => ?_) AllReadyH.nil
        obtain ⟨⟨a0, a1, a2, a3, a4, a5, a6, a7, a8⟩, ⟨f0, f1, f2, f3, f4, f5, f6, f7, f8⟩, az⟩ := HO.out; go_simp; clear a0 f0 a1 f1 a2 f2 a3 f3 a4 f4 a5 f5 a6 f6 a7 f7 a8 f8 az
        have HC := Lib.hid (((HC.out.far ⟨GO, 0, none⟩ (.int .i64 V0) (by show GC ≠ GO; exact ne_C_O)).far ⟨GO, 1, none⟩ (.int .i64 V1) (by show GC ≠ GO; exact ne_C_O)).far ⟨GO, 2, none⟩ (.int .i64 V2) (by show GC ≠ GO; exact ne_C_O))
        have HO := Lib.hid (((HO.out.set0 V0).set1 V1).set2 V2)
        refine hK.out _ _ ⟨(Below.setCell (Below.setCell (Below.setCell hHeld.1 (p := ⟨GO, 0, none⟩) le_O _) (p := ⟨GO, 1, none⟩) le_O _) (p := ⟨GO, 2, none⟩) le_O _), HC.out⟩ (fun hHeld2 => ?_); (clear hHeld; rename _ => hHeld; clear hK K; have hHeld : (fun W => Below w.heap.size w W ∧ Bk9 W GC c0 c1 c2 c3 c4 c5 c6 c7 c8) _ := hHeld); (try simp only [Act.put, List.getElem_toArray, List.getElem_cons_succ, List.getElem_cons_zero, List.setIfInBounds_toArray, List.set_cons_zero, List.set_cons_succ])
        obtain ⟨ywr40x2, hwx⟩ : ∃ wx, ((ywr40x1.setCell ⟨GO, 0, none⟩ (.int .i64 V0)).setCell ⟨GO, 1, none⟩ (.int .i64 V1)).setCell ⟨GO, 2, none⟩ (.int .i64 V2) = wx := ⟨_, rfl⟩; rw [hwx] at HO HC hHeld ⊢; clear hwx
        refine wpAnyH_done (by kernel_rfl) ?_ _
        have HB := Lib.hid (hHeld.1)
        clear hHeld
        obtain ⟨⟨qO0, qO1, qO2, qO3, qO4, qO5, qO6, qO7, qO8⟩, ⟨fO0, fO1, fO2, fO3, fO4, fO5, fO6, fO7, fO8⟩, zO⟩ := HO.out
        obtain ⟨⟨qC0, qC1, qC2, qC3, qC4, qC5, qC6, qC7, qC8⟩, ⟨fC0, fC1, fC2, fC3, fC4, fC5, fC6, fC7, fC8⟩, zC⟩ := HC.out
        go_wp2_with fail
        clear qO0 fO0 qO1 fO1 qO2 fO2 qO3 fO3 qO4 fO4 qO5 fO5 qO6 fO6 qO7 fO7 qO8 fO8 zO qC0 fC0 qC1 fC1 qC2 fC2 qC3 fC3 qC4 fC4 qC5 fC5 qC6 fC6 qC7 fC7 qC8 fC8 zC
        go_roundw
        case rel => exact ⟨0 + 1, by first | rfl | go_num, by omega, HO.out, HC.out, HB.out⟩
        case measure => simp only [intOf]; omega
      · rw [show ((1 : Nat) : Int) = 1 from rfl]
        have HO : Hid (Bk9 wr GO V0 V1 V2 0 0 0 0 0 0) := HO0.out
        clear HO0
        obtain ⟨ne_O_C, ne_C_O, le_O⟩ := HNE.out
        obtain ⟨⟨qO0, qO1, qO2, qO3, qO4, qO5, qO6, qO7, qO8⟩, ⟨fO0, fO1, fO2, fO3, fO4, fO5, fO6, fO7, fO8⟩, zO⟩ := HO.out
        obtain ⟨⟨qC0, qC1, qC2, qC3, qC4, qC5, qC6, qC7, qC8⟩, ⟨fC0, fC1, fC2, fC3, fC4, fC5, fC6, fC7, fC8⟩, zC⟩ := HC.out
        go_upto_region 8 with fail
        clear qO0 fO0 qO1 fO1 qO2 fO2 qO3 fO3 qO4 fO4 qO5 fO5 qO6 fO6 qO7 fO7 qO8 fO8 zO qC0 fC0 qC1 fC1 qC2 fC2 qC3 fC3 qC4 fC4 qC5 fC5 qC6 fC6 qC7 fC7 qC8 fC8 zC
        go_wp2_with fail
        refine wp_region_held_drew (S := fun W => Below w.heap.size w W ∧ Bk9 W GC c0 c1 c2 c3 c4 c5 c6 c7 c8) (by kernel_rfl) ?_ (fun hHeld => ?_); focus ((try dsimp only); exact ⟨Below.drew HB.out, HC.out.below (Below.drew (Below.refl _ _))⟩)
        have HO := Lib.hid (HO.out.below (Below.drew (Below.refl _ _)))
        have HC := Lib.hid (HC.out.below (Below.drew (Below.refl _ _)))
        have hHeld : (fun W => Below w.heap.size w W ∧ Bk9 W GC c0 c1 c2 c3 c4 c5 c6 c7 c8) _ := hHeld
        obtain ⟨wD60, hwD60⟩ : ∃ wD, wr.drew = wD := ⟨_, rfl⟩
        rw [hwD60] at hHeld HO HC ⊢
        clear hwD60
        (refine wpAnyH_take (i := 0) (v := ?_) rfl (by kernel_rfl) (by kernel_rfl) (by kernel_rfl) (fun _ _ _ h => h) (Or.inl ⟨rfl, ?_⟩) (by assumption) ?_; rotate_left; focus (intro W hSw; (try dsimp only at hSw); obtain ⟨hSb, hxC⟩ := hSw; obtain ⟨⟨iC0, iC1, iC2, iC3, iC4, iC5, iC6, iC7, iC8⟩, _, _⟩ := hxC; go_simp; try (with_reducible rfl))); (try simp only [Act.put, List.getElem_toArray, List.getElem_cons_succ, List.getElem_cons_zero, List.setIfInBounds_toArray, List.set_cons_zero, List.set_cons_succ])
        (refine wpAnyH_take (i := 1) (v := ?_) rfl (by kernel_rfl) (by kernel_rfl) (by kernel_rfl) (fun _ _ _ h => h) (Or.inl ⟨rfl, ?_⟩) (by assumption) ?_; rotate_left; focus (intro W hSw; (try dsimp only at hSw); obtain ⟨hSb, hxC⟩ := hSw; obtain ⟨⟨iC0, iC1, iC2, iC3, iC4, iC5, iC6, iC7, iC8⟩, _, _⟩ := hxC; go_simp; try (with_reducible rfl))); (try simp only [Act.put, List.getElem_toArray, List.getElem_cons_succ, List.getElem_cons_zero, List.setIfInBounds_toArray, List.set_cons_zero, List.set_cons_succ])
        (refine wpAnyH_take (i := 2) (v := ?_) rfl (by kernel_rfl) (by kernel_rfl) (by kernel_rfl) (fun _ _ _ h => h) (Or.inl ⟨rfl, ?_⟩) (by assumption) ?_; rotate_left; focus (intro W hSw; (try dsimp only at hSw); obtain ⟨hSb, hxC⟩ := hSw; obtain ⟨⟨iC0, iC1, iC2, iC3, iC4, iC5, iC6, iC7, iC8⟩, _, _⟩ := hxC; go_simp; try (with_reducible rfl))); (try simp only [Act.put, List.getElem_toArray, List.getElem_cons_succ, List.getElem_cons_zero, List.setIfInBounds_toArray, List.set_cons_zero, List.set_cons_succ])
        (refine wpAnyH_take (i := 3) (v := ?_) rfl (by kernel_rfl) (by kernel_rfl) (by kernel_rfl) (fun _ _ _ h => h) (Or.inl ⟨rfl, ?_⟩) (by assumption) ?_; rotate_left; focus (intro W hSw; (try dsimp only at hSw); obtain ⟨hSb, hxC⟩ := hSw; obtain ⟨⟨iC0, iC1, iC2, iC3, iC4, iC5, iC6, iC7, iC8⟩, _, _⟩ := hxC; go_simp; try (with_reducible rfl))); (try simp only [Act.put, List.getElem_toArray, List.getElem_cons_succ, List.getElem_cons_zero, List.setIfInBounds_toArray, List.set_cons_zero, List.set_cons_succ])
        (refine wpAnyH_take (i := 4) (v := ?_) rfl (by kernel_rfl) (by kernel_rfl) (by kernel_rfl) (fun _ _ _ h => h) (Or.inl ⟨rfl, ?_⟩) (by assumption) ?_; rotate_left; focus (intro W hSw; (try dsimp only at hSw); obtain ⟨hSb, hxC⟩ := hSw; obtain ⟨⟨iC0, iC1, iC2, iC3, iC4, iC5, iC6, iC7, iC8⟩, _, _⟩ := hxC; go_simp; try (with_reducible rfl))); (try simp only [Act.put, List.getElem_toArray, List.getElem_cons_succ, List.getElem_cons_zero, List.setIfInBounds_toArray, List.set_cons_zero, List.set_cons_succ])
        (refine wpAnyH_take (i := 5) (v := ?_) rfl (by kernel_rfl) (by kernel_rfl) (by kernel_rfl) (fun _ _ _ h => h) (Or.inl ⟨rfl, ?_⟩) (by assumption) ?_; rotate_left; focus (intro W hSw; (try dsimp only at hSw); obtain ⟨hSb, hxC⟩ := hSw; obtain ⟨⟨iC0, iC1, iC2, iC3, iC4, iC5, iC6, iC7, iC8⟩, _, _⟩ := hxC; go_simp; try (with_reducible rfl))); (try simp only [Act.put, List.getElem_toArray, List.getElem_cons_succ, List.getElem_cons_zero, List.setIfInBounds_toArray, List.set_cons_zero, List.set_cons_succ])
        (refine wpAnyH_take (i := 6) (v := ?_) rfl (by kernel_rfl) (by kernel_rfl) (by kernel_rfl) (fun _ _ _ h => h) (Or.inl ⟨rfl, ?_⟩) (by assumption) ?_; rotate_left; focus (intro W hSw; (try dsimp only at hSw); obtain ⟨hSb, hxC⟩ := hSw; obtain ⟨⟨iC0, iC1, iC2, iC3, iC4, iC5, iC6, iC7, iC8⟩, _, _⟩ := hxC; go_simp; try (with_reducible rfl))); (try simp only [Act.put, List.getElem_toArray, List.getElem_cons_succ, List.getElem_cons_zero, List.setIfInBounds_toArray, List.set_cons_zero, List.set_cons_succ])
        (refine wpAnyH_take (i := 7) (v := ?_) rfl (by kernel_rfl) (by kernel_rfl) (by kernel_rfl) (fun _ _ _ h => h) (Or.inl ⟨rfl, ?_⟩) (by assumption) ?_; rotate_left; focus (intro W hSw; (try dsimp only at hSw); obtain ⟨hSb, hxC⟩ := hSw; obtain ⟨⟨iC0, iC1, iC2, iC3, iC4, iC5, iC6, iC7, iC8⟩, _, _⟩ := hxC; go_simp; try (with_reducible rfl))); (try simp only [Act.put, List.getElem_toArray, List.getElem_cons_succ, List.getElem_cons_zero, List.setIfInBounds_toArray, List.set_cons_zero, List.set_cons_succ])
        (refine wpAnyH_take (i := 8) (v := ?_) rfl (by kernel_rfl) (by kernel_rfl) (by kernel_rfl) (fun _ _ _ h => h) (Or.inl ⟨rfl, ?_⟩) (by assumption) ?_; rotate_left; focus (intro W hSw; (try dsimp only at hSw); obtain ⟨hSb, hxC⟩ := hSw; obtain ⟨⟨iC0, iC1, iC2, iC3, iC4, iC5, iC6, iC7, iC8⟩, _, _⟩ := hxC; go_simp; try (with_reducible rfl))); (try simp only [Act.put, List.getElem_toArray, List.getElem_cons_succ, List.getElem_cons_zero, List.setIfInBounds_toArray, List.set_cons_zero, List.set_cons_succ])
        (refine wpAnyH_take (i := 9) (v := ?_) rfl (by kernel_rfl) (by kernel_rfl) (by kernel_rfl) (fun _ _ _ h => h) (Or.inl ⟨rfl, ?_⟩) (by assumption) ?_; rotate_left; focus (intro W hSw; (try dsimp only at hSw); obtain ⟨hSb, hxC⟩ := hSw; obtain ⟨⟨iC0, iC1, iC2, iC3, iC4, iC5, iC6, iC7, iC8⟩, _, _⟩ := hxC; go_simp; try (with_reducible rfl))); (try simp only [Act.put, List.getElem_toArray, List.getElem_cons_succ, List.getElem_cons_zero, List.setIfInBounds_toArray, List.set_cons_zero, List.set_cons_succ])
        (refine wpAnyH_take (i := 10) (v := ?_) rfl (by kernel_rfl) (by kernel_rfl) (by kernel_rfl) (fun _ _ _ h => h) (Or.inl ⟨rfl, ?_⟩) (by assumption) ?_; rotate_left; focus (intro W hSw; (try dsimp only at hSw); obtain ⟨hSb, hxC⟩ := hSw; obtain ⟨⟨iC0, iC1, iC2, iC3, iC4, iC5, iC6, iC7, iC8⟩, _, _⟩ := hxC; go_simp; try (with_reducible rfl))); (try simp only [Act.put, List.getElem_toArray, List.getElem_cons_succ, List.getElem_cons_zero, List.setIfInBounds_toArray, List.set_cons_zero, List.set_cons_succ])
        (refine wpAnyH_take (i := 11) (v := ?_) rfl (by kernel_rfl) (by kernel_rfl) (by kernel_rfl) (fun _ _ _ h => h) (Or.inl ⟨rfl, ?_⟩) (by assumption) ?_; rotate_left; focus (intro W hSw; (try dsimp only at hSw); obtain ⟨hSb, hxC⟩ := hSw; obtain ⟨⟨iC0, iC1, iC2, iC3, iC4, iC5, iC6, iC7, iC8⟩, _, _⟩ := hxC; go_simp; try (with_reducible rfl))); (try simp only [Act.put, List.getElem_toArray, List.getElem_cons_succ, List.getElem_cons_zero, List.setIfInBounds_toArray, List.set_cons_zero, List.set_cons_succ])
        (refine wpAnyH_take (i := 12) (v := ?_) rfl (by kernel_rfl) (by kernel_rfl) (by kernel_rfl) (fun _ _ _ h => h) (Or.inl ⟨rfl, ?_⟩) (by assumption) ?_; rotate_left; focus (intro W hSw; (try dsimp only at hSw); obtain ⟨hSb, hxC⟩ := hSw; obtain ⟨⟨iC0, iC1, iC2, iC3, iC4, iC5, iC6, iC7, iC8⟩, _, _⟩ := hxC; go_simp; try (with_reducible rfl))); (try simp only [Act.put, List.getElem_toArray, List.getElem_cons_succ, List.getElem_cons_zero, List.setIfInBounds_toArray, List.set_cons_zero, List.set_cons_succ])
        (refine wpAnyH_take (i := 14) (v := ?_) rfl (by kernel_rfl) (by kernel_rfl) (by kernel_rfl) (fun _ _ _ h => h) (Or.inl ⟨rfl, ?_⟩) (by assumption) ?_; rotate_left; focus (intro W hSw; (try dsimp only at hSw); obtain ⟨hSb, hxC⟩ := hSw; obtain ⟨⟨iC0, iC1, iC2, iC3, iC4, iC5, iC6, iC7, iC8⟩, _, _⟩ := hxC; go_simp; try (with_reducible rfl))); (try simp only [Act.put, List.getElem_toArray, List.getElem_cons_succ, List.getElem_cons_zero, List.setIfInBounds_toArray, List.set_cons_zero, List.set_cons_succ])
        refine wpAnyH_ready (rs := [13]) (by kernel_rfl) (by simp) ?_; refine AllReadyH.cons rfl (fun K hK => ?_) AllReadyH.nil
        go_simp; (go_at_call 50; refine (HC1.out _).mono ?_; rintro en ywr60x0 ⟨rfl, hb2⟩); have HO := Lib.hid (HO.out.below hb2); have HC := Lib.hid (HC.out.below hb2); refine hK.out _ _ ⟨below_after hb2 hHeld.1, HC.out⟩ (fun hHeld2 => ?_); clear hb2; (clear hHeld; rename _ => hHeld; clear hK K; have hHeld : (fun W => Below w.heap.size w W ∧ Bk9 W GC c0 c1 c2 c3 c4 c5 c6 c7 c8) _ := hHeld); (try simp only [Act.put, List.getElem_toArray, List.getElem_cons_succ, List.getElem_cons_zero, List.setIfInBounds_toArray, List.set_cons_zero, List.set_cons_succ])
        refine wpAnyH_ready (rs := [15]) (by kernel_rfl) (by simp) ?_; refine AllReadyH.cons rfl (fun K hK => ?_) AllReadyH.nil
        go_simp; (go_at_call 96; refine (HP1.out _).mono ?_; rintro en ywr60x1 ⟨rfl, hb2⟩); have HO := Lib.hid (HO.out.below hb2); have HC := Lib.hid (HC.out.below hb2); refine hK.out _ _ ⟨below_after hb2 hHeld.1, HC.out⟩ (fun hHeld2 => ?_); clear hb2; (clear hHeld; rename _ => hHeld; clear hK K; have hHeld : (fun W => Below w.heap.size w W ∧ Bk9 W GC c0 c1 c2 c3 c4 c5 c6 c7 c8) _ := hHeld); (try simp only [Act.put, List.getElem_toArray, List.getElem_cons_succ, List.getElem_cons_zero, List.setIfInBounds_toArray, List.set_cons_zero, List.set_cons_succ])
        (refine wpAnyH_take (i := 16) (v := ?_) rfl (by kernel_rfl) (by kernel_rfl) (by kernel_rfl) (fun _ _ _ h => h) (Or.inl ⟨rfl, ?_⟩) (by assumption) ?_; rotate_left; focus (intro W hSw; (try dsimp only at hSw); obtain ⟨hSb, hxC⟩ := hSw; obtain ⟨⟨iC0, iC1, iC2, iC3, iC4, iC5, iC6, iC7, iC8⟩, _, _⟩ := hxC; go_simp; try (with_reducible rfl))); (try simp only [Act.put, List.getElem_toArray, List.getElem_cons_succ, List.getElem_cons_zero, List.setIfInBounds_toArray, List.set_cons_zero, List.set_cons_succ])
        refine wpAnyH_ready (rs := [17]) (by kernel_rfl) (by simp) ?_; refine AllReadyH.cons rfl (fun K hK => ?_) AllReadyH.nil
        obtain ⟨⟨a0, a1, a2, a3, a4, a5, a6, a7, a8⟩, ⟨f0, f1, f2, f3, f4, f5, f6, f7, f8⟩, az⟩ := HO.out; go_simp; clear a0 f0 a1 f1 a2 f2 a3 f3 a4 f4 a5 f5 a6 f6 a7 f7 a8 f8 az
        have HC := Lib.hid (((HC.out.far ⟨GO, 3, none⟩ (.int .i64 V3) (by show GC ≠ GO; exact ne_C_O)).far ⟨GO, 4, none⟩ (.int .i64 V4) (by show GC ≠ GO; exact ne_C_O)).far ⟨GO, 5, none⟩ (.int .i64 V5) (by show GC ≠ GO; exact ne_C_O))
        have HO := Lib.hid (((HO.out.set3 V3).set4 V4).set5 V5)
        refine hK.out _ _ ⟨(Below.setCell (Below.setCell (Below.setCell hHeld.1 (p := ⟨GO, 3, none⟩) le_O _) (p := ⟨GO, 4, none⟩) le_O _) (p := ⟨GO, 5, none⟩) le_O _), HC.out⟩ (fun hHeld2 => ?_); (clear hHeld; rename _ => hHeld; clear hK K; have hHeld : (fun W => Below w.heap.size w W ∧ Bk9 W GC c0 c1 c2 c3 c4 c5 c6 c7 c8) _ := hHeld); (try simp only [Act.put, List.getElem_toArray, List.getElem_cons_succ, List.getElem_cons_zero, List.setIfInBounds_toArray, List.set_cons_zero, List.set_cons_succ])
        obtain ⟨ywr60x2, hwx⟩ : ∃ wx, ((ywr60x1.setCell ⟨GO, 3, none⟩ (.int .i64 V3)).setCell ⟨GO, 4, none⟩ (.int .i64 V4)).setCell ⟨GO, 5, none⟩ (.int .i64 V5) = wx := ⟨_, rfl⟩; rw [hwx] at HO HC hHeld ⊢; clear hwx
        refine wpAnyH_done (by kernel_rfl) ?_ _
        have HB := Lib.hid (hHeld.1)
        clear hHeld
        obtain ⟨⟨qO0, qO1, qO2, qO3, qO4, qO5, qO6, qO7, qO8⟩, ⟨fO0, fO1, fO2, fO3, fO4, fO5, fO6, fO7, fO8⟩, zO⟩ := HO.out
        obtain ⟨⟨qC0, qC1, qC2, qC3, qC4, qC5, qC6, qC7, qC8⟩, ⟨fC0, fC1, fC2, fC3, fC4, fC5, fC6, fC7, fC8⟩, zC⟩ := HC.out
        go_wp2_with fail
        clear qO0 fO0 qO1 fO1 qO2 fO2 qO3 fO3 qO4 fO4 qO5 fO5 qO6 fO6 qO7 fO7 qO8 fO8 zO qC0 fC0 qC1 fC1 qC2 fC2 qC3 fC3 qC4 fC4 qC5 fC5 qC6 fC6 qC7 fC7 qC8 fC8 zC
        go_roundw
        case rel => exact ⟨1 + 1, by first | rfl | go_num, by omega, HO.out, HC.out, HB.out⟩
        case measure => simp only [intOf]; omega
      · rw [show ((2 : Nat) : Int) = 2 from rfl]
        have HO : Hid (Bk9 wr GO V0 V1 V2 V3 V4 V5 0 0 0) := HO0.out
        clear HO0
        obtain ⟨ne_O_C, ne_C_O, le_O⟩ := HNE.out
        obtain ⟨⟨qO0, qO1, qO2, qO3, qO4, qO5, qO6, qO7, qO8⟩, ⟨fO0, fO1, fO2, fO3, fO4, fO5, fO6, fO7, fO8⟩, zO⟩ := HO.out
        obtain ⟨⟨qC0, qC1, qC2, qC3, qC4, qC5, qC6, qC7, qC8⟩, ⟨fC0, fC1, fC2, fC3, fC4, fC5, fC6, fC7, fC8⟩, zC⟩ := HC.out
        go_upto_region 8 with fail
        clear qO0 fO0 qO1 fO1 qO2 fO2 qO3 fO3 qO4 fO4 qO5 fO5 qO6 fO6 qO7 fO7 qO8 fO8 zO qC0 fC0 qC1 fC1 qC2 fC2 qC3 fC3 qC4 fC4 qC5 fC5 qC6 fC6 qC7 fC7 qC8 fC8 zC
        go_wp2_with fail
        refine wp_region_held_drew (S := fun W => Below w.heap.size w W ∧ Bk9 W GC c0 c1 c2 c3 c4 c5 c6 c7 c8) (by kernel_rfl) ?_ (fun hHeld => ?_); focus ((try dsimp only); exact ⟨Below.drew HB.out, HC.out.below (Below.drew (Below.refl _ _))⟩)
        have HO := Lib.hid (HO.out.below (Below.drew (Below.refl _ _)))
        have HC := Lib.hid (HC.out.below (Below.drew (Below.refl _ _)))
        have hHeld : (fun W => Below w.heap.size w W ∧ Bk9 W GC c0 c1 c2 c3 c4 c5 c6 c7 c8) _ := hHeld
        obtain ⟨wD80, hwD80⟩ : ∃ wD, wr.drew = wD := ⟨_, rfl⟩
        rw [hwD80] at hHeld HO HC ⊢
        clear hwD80
        (refine wpAnyH_take (i := 0) (v := ?_) rfl (by kernel_rfl) (by kernel_rfl) (by kernel_rfl) (fun _ _ _ h => h) (Or.inl ⟨rfl, ?_⟩) (by assumption) ?_; rotate_left; focus (intro W hSw; (try dsimp only at hSw); obtain ⟨hSb, hxC⟩ := hSw; obtain ⟨⟨iC0, iC1, iC2, iC3, iC4, iC5, iC6, iC7, iC8⟩, _, _⟩ := hxC; go_simp; try (with_reducible rfl))); (try simp only [Act.put, List.getElem_toArray, List.getElem_cons_succ, List.getElem_cons_zero, List.setIfInBounds_toArray, List.set_cons_zero, List.set_cons_succ])
        (refine wpAnyH_take (i := 1) (v := ?_) rfl (by kernel_rfl) (by kernel_rfl) (by kernel_rfl) (fun _ _ _ h => h) (Or.inl ⟨rfl, ?_⟩) (by assumption) ?_; rotate_left; focus (intro W hSw; (try dsimp only at hSw); obtain ⟨hSb, hxC⟩ := hSw; obtain ⟨⟨iC0, iC1, iC2, iC3, iC4, iC5, iC6, iC7, iC8⟩, _, _⟩ := hxC; go_simp; try (with_reducible rfl))); (try simp only [Act.put, List.getElem_toArray, List.getElem_cons_succ, List.getElem_cons_zero, List.setIfInBounds_toArray, List.set_cons_zero, List.set_cons_succ])
        (refine wpAnyH_take (i := 2) (v := ?_) rfl (by kernel_rfl) (by kernel_rfl) (by kernel_rfl) (fun _ _ _ h => h) (Or.inl ⟨rfl, ?_⟩) (by assumption) ?_; rotate_left; focus (intro W hSw; (try dsimp only at hSw); obtain ⟨hSb, hxC⟩ := hSw; obtain ⟨⟨iC0, iC1, iC2, iC3, iC4, iC5, iC6, iC7, iC8⟩, _, _⟩ := hxC; go_simp; try (with_reducible rfl))); (try simp only [Act.put, List.getElem_toArray, List.getElem_cons_succ, List.getElem_cons_zero, List.setIfInBounds_toArray, List.set_cons_zero, List.set_cons_succ])
        (refine wpAnyH_take (i := 3) (v := ?_) rfl (by kernel_rfl) (by kernel_rfl) (by kernel_rfl) (fun _ _ _ h => h) (Or.inl ⟨rfl, ?_⟩) (by assumption) ?_; rotate_left; focus (intro W hSw; (try dsimp only at hSw); obtain ⟨hSb, hxC⟩ := hSw; obtain ⟨⟨iC0, iC1, iC2, iC3, iC4, iC5, iC6, iC7, iC8⟩, _, _⟩ := hxC; go_simp; try (with_reducible rfl))); (try simp only [Act.put, List.getElem_toArray, List.getElem_cons_succ, List.getElem_cons_zero, List.setIfInBounds_toArray, List.set_cons_zero, List.set_cons_succ])
        (refine wpAnyH_take (i := 4) (v := ?_) rfl (by kernel_rfl) (by kernel_rfl) (by kernel_rfl) (fun _ _ _ h => h) (Or.inl ⟨rfl, ?_⟩) (by assumption) ?_; rotate_left; focus (intro W hSw; (try dsimp only at hSw); obtain ⟨hSb, hxC⟩ := hSw; obtain ⟨⟨iC0, iC1, iC2, iC3, iC4, iC5, iC6, iC7, iC8⟩, _, _⟩ := hxC; go_simp; try (with_reducible rfl))); (try simp only [Act.put, List.getElem_toArray, List.getElem_cons_succ, List.getElem_cons_zero, List.setIfInBounds_toArray, List.set_cons_zero, List.set_cons_succ])
        (refine wpAnyH_take (i := 5) (v := ?_) rfl (by kernel_rfl) (by kernel_rfl) (by kernel_rfl) (fun _ _ _ h => h) (Or.inl ⟨rfl, ?_⟩) (by assumption) ?_; rotate_left; focus (intro W hSw; (try dsimp only at hSw); obtain ⟨hSb, hxC⟩ := hSw; obtain ⟨⟨iC0, iC1, iC2, iC3, iC4, iC5, iC6, iC7, iC8⟩, _, _⟩ := hxC; go_simp; try (with_reducible rfl))); (try simp only [Act.put, List.getElem_toArray, List.getElem_cons_succ, List.getElem_cons_zero, List.setIfInBounds_toArray, List.set_cons_zero, List.set_cons_succ])
        (refine wpAnyH_take (i := 6) (v := ?_) rfl (by kernel_rfl) (by kernel_rfl) (by kernel_rfl) (fun _ _ _ h => h) (Or.inl ⟨rfl, ?_⟩) (by assumption) ?_; rotate_left; focus (intro W hSw; (try dsimp only at hSw); obtain ⟨hSb, hxC⟩ := hSw; obtain ⟨⟨iC0, iC1, iC2, iC3, iC4, iC5, iC6, iC7, iC8⟩, _, _⟩ := hxC; go_simp; try (with_reducible rfl))); (try simp only [Act.put, List.getElem_toArray, List.getElem_cons_succ, List.getElem_cons_zero, List.setIfInBounds_toArray, List.set_cons_zero, List.set_cons_succ])
        (refine wpAnyH_take (i := 7) (v := ?_) rfl (by kernel_rfl) (by kernel_rfl) (by kernel_rfl) (fun _ _ _ h => h) (Or.inl ⟨rfl, ?_⟩) (by assumption) ?_; rotate_left; focus (intro W hSw; (try dsimp only at hSw); obtain ⟨hSb, hxC⟩ := hSw; obtain ⟨⟨iC0, iC1, iC2, iC3, iC4, iC5, iC6, iC7, iC8⟩, _, _⟩ := hxC; go_simp; try (with_reducible rfl))); (try simp only [Act.put, List.getElem_toArray, List.getElem_cons_succ, List.getElem_cons_zero, List.setIfInBounds_toArray, List.set_cons_zero, List.set_cons_succ])
        (refine wpAnyH_take (i := 8) (v := ?_) rfl (by kernel_rfl) (by kernel_rfl) (by kernel_rfl) (fun _ _ _ h => h) (Or.inl ⟨rfl, ?_⟩) (by assumption) ?_; rotate_left; focus (intro W hSw; (try dsimp only at hSw); obtain ⟨hSb, hxC⟩ := hSw; obtain ⟨⟨iC0, iC1, iC2, iC3, iC4, iC5, iC6, iC7, iC8⟩, _, _⟩ := hxC; go_simp; try (with_reducible rfl))); (try simp only [Act.put, List.getElem_toArray, List.getElem_cons_succ, List.getElem_cons_zero, List.setIfInBounds_toArray, List.set_cons_zero, List.set_cons_succ])
        (refine wpAnyH_take (i := 9) (v := ?_) rfl (by kernel_rfl) (by kernel_rfl) (by kernel_rfl) (fun _ _ _ h => h) (Or.inl ⟨rfl, ?_⟩) (by assumption) ?_; rotate_left; focus (intro W hSw; (try dsimp only at hSw); obtain ⟨hSb, hxC⟩ := hSw; obtain ⟨⟨iC0, iC1, iC2, iC3, iC4, iC5, iC6, iC7, iC8⟩, _, _⟩ := hxC; go_simp; try (with_reducible rfl))); (try simp only [Act.put, List.getElem_toArray, List.getElem_cons_succ, List.getElem_cons_zero, List.setIfInBounds_toArray, List.set_cons_zero, List.set_cons_succ])
        (refine wpAnyH_take (i := 10) (v := ?_) rfl (by kernel_rfl) (by kernel_rfl) (by kernel_rfl) (fun _ _ _ h => h) (Or.inl ⟨rfl, ?_⟩) (by assumption) ?_; rotate_left; focus (intro W hSw; (try dsimp only at hSw); obtain ⟨hSb, hxC⟩ := hSw; obtain ⟨⟨iC0, iC1, iC2, iC3, iC4, iC5, iC6, iC7, iC8⟩, _, _⟩ := hxC; go_simp; try (with_reducible rfl))); (try simp only [Act.put, List.getElem_toArray, List.getElem_cons_succ, List.getElem_cons_zero, List.setIfInBounds_toArray, List.set_cons_zero, List.set_cons_succ])
        (refine wpAnyH_take (i := 11) (v := ?_) rfl (by kernel_rfl) (by kernel_rfl) (by kernel_rfl) (fun _ _ _ h => h) (Or.inl ⟨rfl, ?_⟩) (by assumption) ?_; rotate_left; focus (intro W hSw; (try dsimp only at hSw); obtain ⟨hSb, hxC⟩ := hSw; obtain ⟨⟨iC0, iC1, iC2, iC3, iC4, iC5, iC6, iC7, iC8⟩, _, _⟩ := hxC; go_simp; try (with_reducible rfl))); (try simp only [Act.put, List.getElem_toArray, List.getElem_cons_succ, List.getElem_cons_zero, List.setIfInBounds_toArray, List.set_cons_zero, List.set_cons_succ])
        (refine wpAnyH_take (i := 12) (v := ?_) rfl (by kernel_rfl) (by kernel_rfl) (by kernel_rfl) (fun _ _ _ h => h) (Or.inl ⟨rfl, ?_⟩) (by assumption) ?_; rotate_left; focus (intro W hSw; (try dsimp only at hSw); obtain ⟨hSb, hxC⟩ := hSw; obtain ⟨⟨iC0, iC1, iC2, iC3, iC4, iC5, iC6, iC7, iC8⟩, _, _⟩ := hxC; go_simp; try (with_reducible rfl))); (try simp only [Act.put, List.getElem_toArray, List.getElem_cons_succ, List.getElem_cons_zero, List.setIfInBounds_toArray, List.set_cons_zero, List.set_cons_succ])
        (refine wpAnyH_take (i := 14) (v := ?_) rfl (by kernel_rfl) (by kernel_rfl) (by kernel_rfl) (fun _ _ _ h => h) (Or.inl ⟨rfl, ?_⟩) (by assumption) ?_; rotate_left; focus (intro W hSw; (try dsimp only at hSw); obtain ⟨hSb, hxC⟩ := hSw; obtain ⟨⟨iC0, iC1, iC2, iC3, iC4, iC5, iC6, iC7, iC8⟩, _, _⟩ := hxC; go_simp; try (with_reducible rfl))); (try simp only [Act.put, List.getElem_toArray, List.getElem_cons_succ, List.getElem_cons_zero, List.setIfInBounds_toArray, List.set_cons_zero, List.set_cons_succ])
        refine wpAnyH_ready (rs := [13]) (by kernel_rfl) (by simp) ?_; refine AllReadyH.cons rfl (fun K hK => ?_) AllReadyH.nil
        go_simp; (go_at_call 50; refine (HC2.out _).mono ?_; rintro en ywr80x0 ⟨rfl, hb2⟩); have HO := Lib.hid (HO.out.below hb2); have HC := Lib.hid (HC.out.below hb2); refine hK.out _ _ ⟨below_after hb2 hHeld.1, HC.out⟩ (fun hHeld2 => ?_); clear hb2; (clear hHeld; rename _ => hHeld; clear hK K; have hHeld : (fun W => Below w.heap.size w W ∧ Bk9 W GC c0 c1 c2 c3 c4 c5 c6 c7 c8) _ := hHeld); (try simp only [Act.put, List.getElem_toArray, List.getElem_cons_succ, List.getElem_cons_zero, List.setIfInBounds_toArray, List.set_cons_zero, List.set_cons_succ])
        refine wpAnyH_ready (rs := [15]) (by kernel_rfl) (by simp) ?_; refine AllReadyH.cons rfl (fun K hK => ?_) AllReadyH.nil
        go_simp; (go_at_call 96; refine (HP2.out _).mono ?_; rintro en ywr80x1 ⟨rfl, hb2⟩); have HO := Lib.hid (HO.out.below hb2); have HC := Lib.hid (HC.out.below hb2); refine hK.out _ _ ⟨below_after hb2 hHeld.1, HC.out⟩ (fun hHeld2 => ?_); clear hb2; (clear hHeld; rename _ => hHeld; clear hK K; have hHeld : (fun W => Below w.heap.size w W ∧ Bk9 W GC c0 c1 c2 c3 c4 c5 c6 c7 c8) _ := hHeld); (try simp only [Act.put, List.getElem_toArray, List.getElem_cons_succ, List.getElem_cons_zero, List.setIfInBounds_toArray, List.set_cons_zero, List.set_cons_succ])
        (refine wpAnyH_take (i := 16) (v := ?_) rfl (by kernel_rfl) (by kernel_rfl) (by kernel_rfl) (fun _ _ _ h => h) (Or.inl ⟨rfl, ?_⟩) (by assumption) ?_; rotate_left; focus (intro W hSw; (try dsimp only at hSw); obtain ⟨hSb, hxC⟩ := hSw; obtain ⟨⟨iC0, iC1, iC2, iC3, iC4, iC5, iC6, iC7, iC8⟩, _, _⟩ := hxC; go_simp; try (with_reducible rfl))); (try simp only [Act.put, List.getElem_toArray, List.getElem_cons_succ, List.getElem_cons_zero, List.setIfInBounds_toArray, List.set_cons_zero, List.set_cons_succ])
        refine wpAnyH_ready (rs := [17]) (by kernel_rfl) (by simp) ?_; refine AllReadyH.cons rfl (fun K hK => ?_) AllReadyH.nil
        obtain ⟨⟨a0, a1, a2, a3, a4, a5, a6, a7, a8⟩, ⟨f0, f1, f2, f3, f4, f5, f6, f7, f8⟩, az⟩ := HO.out; go_simp; clear a0 f0 a1 f1 a2 f2 a3 f3 a4 f4 a5 f5 a6 f6 a7 f7 a8 f8 az
        have HC := Lib.hid (((HC.out.far ⟨GO, 6, none⟩ (.int .i64 V6) (by show GC ≠ GO; exact ne_C_O)).far ⟨GO, 7, none⟩ (.int .i64 V7) (by show GC ≠ GO; exact ne_C_O)).far ⟨GO, 8, none⟩ (.int .i64 V8) (by show GC ≠ GO; exact ne_C_O))
        have HO := Lib.hid (((HO.out.set6 V6).set7 V7).set8 V8)
        refine hK.out _ _ ⟨(Below.setCell (Below.setCell (Below.setCell hHeld.1 (p := ⟨GO, 6, none⟩) le_O _) (p := ⟨GO, 7, none⟩) le_O _) (p := ⟨GO, 8, none⟩) le_O _), HC.out⟩ (fun hHeld2 => ?_); (clear hHeld; rename _ => hHeld; clear hK K; have hHeld : (fun W => Below w.heap.size w W ∧ Bk9 W GC c0 c1 c2 c3 c4 c5 c6 c7 c8) _ := hHeld); (try simp only [Act.put, List.getElem_toArray, List.getElem_cons_succ, List.getElem_cons_zero, List.setIfInBounds_toArray, List.set_cons_zero, List.set_cons_succ])
        obtain ⟨ywr80x2, hwx⟩ : ∃ wx, ((ywr80x1.setCell ⟨GO, 6, none⟩ (.int .i64 V6)).setCell ⟨GO, 7, none⟩ (.int .i64 V7)).setCell ⟨GO, 8, none⟩ (.int .i64 V8) = wx := ⟨_, rfl⟩; rw [hwx] at HO HC hHeld ⊢; clear hwx
        refine wpAnyH_done (by kernel_rfl) ?_ _
        have HB := Lib.hid (hHeld.1)
        clear hHeld
        obtain ⟨⟨qO0, qO1, qO2, qO3, qO4, qO5, qO6, qO7, qO8⟩, ⟨fO0, fO1, fO2, fO3, fO4, fO5, fO6, fO7, fO8⟩, zO⟩ := HO.out
        obtain ⟨⟨qC0, qC1, qC2, qC3, qC4, qC5, qC6, qC7, qC8⟩, ⟨fC0, fC1, fC2, fC3, fC4, fC5, fC6, fC7, fC8⟩, zC⟩ := HC.out
        go_wp2_with fail
        clear qO0 fO0 qO1 fO1 qO2 fO2 qO3 fO3 qO4 fO4 qO5 fO5 qO6 fO6 qO7 fO7 qO8 fO8 zO qC0 fC0 qC1 fC1 qC2 fC2 qC3 fC3 qC4 fC4 qC5 fC5 qC6 fC6 qC7 fC7 qC8 fC8 zC
        go_roundw
        case rel => exact ⟨2 + 1, by first | rfl | go_num, by omega, HO.out, HC.out, HB.out⟩
        case measure => simp only [intOf]; omega
      · rw [show ((3 : Nat) : Int) = 3 from rfl]
        have HO : Hid (Bk9 wr GO V0 V1 V2 V3 V4 V5 V6 V7 V8) := HO0.out
        clear HO0
        obtain ⟨ne_O_C, ne_C_O, le_O⟩ := HNE.out
        obtain ⟨⟨qO0, qO1, qO2, qO3, qO4, qO5, qO6, qO7, qO8⟩, ⟨fO0, fO1, fO2, fO3, fO4, fO5, fO6, fO7, fO8⟩, zO⟩ := HO.out
        obtain ⟨⟨qC0, qC1, qC2, qC3, qC4, qC5, qC6, qC7, qC8⟩, ⟨fC0, fC1, fC2, fC3, fC4, fC5, fC6, fC7, fC8⟩, zC⟩ := HC.out
        go_wp2_with fail
        refine bodyPost_ret (v := .slice (some ⟨GO, 0, none⟩) 3 3) (by simp (maxDischargeDepth := 8) [results, Tryd.results62, go_sem, *]) rfl ?_
        have hb := HB.out
        have hle := le_O
        exact ⟨GO, rfl, by rw [HR0.out, HR1.out, HR2.out, HR3.out, HR4.out, HR5.out, HR6.out, HR7.out, HR8.out]; exact HO.out, by omega, by (repeat' (first | (with_reducible exact Below.refl _ _) | (with_reducible refine Below.alloc ?_ ?_ _) | (with_reducible refine Below.setCell ?_ ?_ _) | (with_reducible refine Below.drew ?_) | (with_reducible refine below_drewN ?_ _) | (with_reducible assumption) | (with_reducible refine below_after (by with_reducible assumption) ?_) | go_size))⟩
  · have hsg : sgV D = 1 := if_neg hneg
    obtain ⟨V0, hV0⟩ : ∃ V, 0 + 1 * X0 = V := ⟨_, rfl⟩
    have HR0 : Hid (sgV D * X0 = V0) := by show _ = _; rw [hsg, ← hV0]; omega
    obtain ⟨V1, hV1⟩ : ∃ V, 0 + 1 * Y0 = V := ⟨_, rfl⟩
    have HR1 : Hid (sgV D * Y0 = V1) := by show _ = _; rw [hsg, ← hV1]; omega
    obtain ⟨V2, hV2⟩ : ∃ V, 0 + 1 * Z0 = V := ⟨_, rfl⟩
    have HR2 : Hid (sgV D * Z0 = V2) := by show _ = _; rw [hsg, ← hV2]; omega
    have HP0 : Hid (∀ w, Calls Tryd.prog 96 #[.agg #[.int .i64 0, .int .i64 0, .int .i64 0], .agg #[.int .i64 X0, .int .i64 Y0, .int .i64 Z0], .int .i64 1] w fun e w' => e = .returned (.agg #[.int .i64 V0, .int .i64 V1, .int .i64 V2]) ∧ Below w.heap.size w w') := fun w => by have := spotPlusTimes_any 0 0 0 X0 Y0 Z0 1 w (W3.zero _ (by omega)) HX0.out (by unfold Wi; omega); rwa [hV0, hV1, hV2] at this
    clear hV0 hV1 hV2
    obtain ⟨V3, hV3⟩ : ∃ V, 0 + 1 * X1 = V := ⟨_, rfl⟩
    have HR3 : Hid (sgV D * X1 = V3) := by show _ = _; rw [hsg, ← hV3]; omega
    obtain ⟨V4, hV4⟩ : ∃ V, 0 + 1 * Y1 = V := ⟨_, rfl⟩
    have HR4 : Hid (sgV D * Y1 = V4) := by show _ = _; rw [hsg, ← hV4]; omega
    obtain ⟨V5, hV5⟩ : ∃ V, 0 + 1 * Z1 = V := ⟨_, rfl⟩
    have HR5 : Hid (sgV D * Z1 = V5) := by show _ = _; rw [hsg, ← hV5]; omega
    have HP1 : Hid (∀ w, Calls Tryd.prog 96 #[.agg #[.int .i64 0, .int .i64 0, .int .i64 0], .agg #[.int .i64 X1, .int .i64 Y1, .int .i64 Z1], .int .i64 1] w fun e w' => e = .returned (.agg #[.int .i64 V3, .int .i64 V4, .int .i64 V5]) ∧ Below w.heap.size w w') := fun w => by have := spotPlusTimes_any 0 0 0 X1 Y1 Z1 1 w (W3.zero _ (by omega)) HX1.out (by unfold Wi; omega); rwa [hV3, hV4, hV5] at this
    clear hV3 hV4 hV5
    obtain ⟨V6, hV6⟩ : ∃ V, 0 + 1 * X2 = V := ⟨_, rfl⟩
    have HR6 : Hid (sgV D * X2 = V6) := by show _ = _; rw [hsg, ← hV6]; omega
    obtain ⟨V7, hV7⟩ : ∃ V, 0 + 1 * Y2 = V := ⟨_, rfl⟩
    have HR7 : Hid (sgV D * Y2 = V7) := by show _ = _; rw [hsg, ← hV7]; omega
    obtain ⟨V8, hV8⟩ : ∃ V, 0 + 1 * Z2 = V := ⟨_, rfl⟩
    have HR8 : Hid (sgV D * Z2 = V8) := by show _ = _; rw [hsg, ← hV8]; omega
    have HP2 : Hid (∀ w, Calls Tryd.prog 96 #[.agg #[.int .i64 0, .int .i64 0, .int .i64 0], .agg #[.int .i64 X2, .int .i64 Y2, .int .i64 Z2], .int .i64 1] w fun e w' => e = .returned (.agg #[.int .i64 V6, .int .i64 V7, .int .i64 V8]) ∧ Below w.heap.size w w') := fun w => by have := spotPlusTimes_any 0 0 0 X2 Y2 Z2 1 w (W3.zero _ (by omega)) HX2.out (by unfold Wi; omega); rwa [hV6, hV7, hV8] at this
    clear hV6 hV7 hV8
    clear hsg
    obtain ⟨GC, hG⟩ : ∃ G, w.heap.size = G := ⟨_, rfl⟩
    have HG := Lib.hid hG
    go_enter Tryd.func62, Tryd.ntmps62
    go_upto_region 1 with fail
    obtain ⟨w0, hw0⟩ : ∃ w0, w0 = (w.alloc (.cells #[.int .i64 c0, .int .i64 c1, .int .i64 c2, .int .i64 c3, .int .i64 c4, .int .i64 c5, .int .i64 c6, .int .i64 c7, .int .i64 c8] 39)) := ⟨_, rfl⟩
    rw [← hw0]
    have HC : Hid (Bk9 w0 GC c0 c1 c2 c3 c4 c5 c6 c7 c8) := by
      have h := (bk9_new w c0 c1 c2 c3 c4 c5 c6 c7 c8 39).below (W' := (w.alloc (.cells #[.int .i64 c0, .int .i64 c1, .int .i64 c2, .int .i64 c3, .int .i64 c4, .int .i64 c5, .int .i64 c6, .int .i64 c7, .int .i64 c8] 39))) (by (repeat' (first | (with_reducible exact Below.refl _ _) | (with_reducible refine Below.alloc ?_ ?_ _) | (with_reducible refine Below.setCell ?_ ?_ _) | (with_reducible refine Below.drew ?_) | (with_reducible refine below_drewN ?_ _) | (with_reducible assumption) | (with_reducible refine below_after (by with_reducible assumption) ?_) | go_size)))
      (try simp only [World.size_alloc] at h)
      rw [hG] at h
      rw [hw0]; exact h
    have HB : Hid (Below w.heap.size w w0) := by show Below w.heap.size w w0; rw [hw0]; (repeat' (first | (with_reducible exact Below.refl _ _) | (with_reducible refine Below.alloc ?_ ?_ _) | (with_reducible refine Below.setCell ?_ ?_ _) | (with_reducible refine Below.drew ?_) | (with_reducible refine below_drewN ?_ _) | (with_reducible assumption) | (with_reducible refine below_after (by with_reducible assumption) ?_) | go_size))
    clear hw0
    have le_C : w.heap.size ≤ GC := by omega
    obtain ⟨⟨qC0, qC1, qC2, qC3, qC4, qC5, qC6, qC7, qC8⟩, ⟨fC0, fC1, fC2, fC3, fC4, fC5, fC6, fC7, fC8⟩, zC⟩ := HC.out
    go_wp2_with fail
    go_at_call 54
    refine (HD.out _).mono ?_
    rintro e w1 ⟨rfl, hb⟩
    clear qC0 fC0 qC1 fC1 qC2 fC2 qC3 fC3 qC4 fC4 qC5 fC5 qC6 fC6 qC7 fC7 qC8 fC8 zC
    have HC := Lib.hid (HC.out.below hb)
    have HB := Lib.hid (below_after hb HB.out)
    clear hb
    have hmk := make3
    obtain ⟨⟨qC0, qC1, qC2, qC3, qC4, qC5, qC6, qC7, qC8⟩, ⟨fC0, fC1, fC2, fC3, fC4, fC5, fC6, fC7, fC8⟩, zC⟩ := HC.out
    go_upto_region 5 with fail
    obtain ⟨GO, hGO⟩ : ∃ g, w1.heap.size = g := ⟨_, rfl⟩
    obtain ⟨w2, hw2⟩ : ∃ wx, wx = w1.alloc (.cells #[.int .i64 0, .int .i64 0, .int .i64 0, .int .i64 0, .int .i64 0, .int .i64 0, .int .i64 0, .int .i64 0, .int .i64 0] 26) := ⟨_, rfl⟩
    rw [← hw2, hGO]
    have HO : Hid (Bk9 w2 GO 0 0 0 0 0 0 0 0 0) := by rw [hw2, ← hGO]; exact bk9_new w1 0 0 0 0 0 0 0 0 0 _
    have le_O : w.heap.size ≤ GO := by rw [← hGO]; exact HB.out.size
    have ne_O_C : GO ≠ GC := by have := HC.out.2.2; omega
    have ne_C_O : GC ≠ GO := Ne.symm ne_O_C
    clear qC0 fC0 qC1 fC1 qC2 fC2 qC3 fC3 qC4 fC4 qC5 fC5 qC6 fC6 qC7 fC7 qC8 fC8 zC
    have HC := Lib.hid (HC.out.below ((Below.refl _ _).alloc (Nat.le_refl _) (.cells #[.int .i64 0, .int .i64 0, .int .i64 0, .int .i64 0, .int .i64 0, .int .i64 0, .int .i64 0, .int .i64 0, .int .i64 0] 26)))
    have HB := Lib.hid (Below.alloc HB.out HB.out.size (.cells #[.int .i64 0, .int .i64 0, .int .i64 0, .int .i64 0, .int .i64 0, .int .i64 0, .int .i64 0, .int .i64 0, .int .i64 0] 26))
    rw [← hw2] at HC HB
    clear hw2 hGO
    obtain ⟨⟨qC0, qC1, qC2, qC3, qC4, qC5, qC6, qC7, qC8⟩, ⟨fC0, fC1, fC2, fC3, fC4, fC5, fC6, fC7, fC8⟩, zC⟩ := HC.out
    obtain ⟨⟨qO0, qO1, qO2, qO3, qO4, qO5, qO6, qO7, qO8⟩, ⟨fO0, fO1, fO2, fO3, fO4, fO5, fO6, fO7, fO8⟩, zO⟩ := HO.out
    go_wp2_with fail
    clear qC0 fC0 qC1 fC1 qC2 fC2 qC3 fC3 qC4 fC4 qC5 fC5 qC6 fC6 qC7 fC7 qC8 fC8 zC qO0 fO0 qO1 fO1 qO2 fO2 qO3 fO3 qO4 fO4 qO5 fO5 qO6 fO6 qO7 fO7 qO8 fO8 zO
    have HNE : Hid (GO ≠ GC ∧ GC ≠ GO ∧ w.heap.size ≤ GO) := ⟨ne_O_C, ne_C_O, le_O⟩
    go_loopw [10] (fun y wr => ∃ i : Nat, y = .int .i64 (i : Int) ∧ i ≤ 3 ∧ (match i with | 0 => Bk9 wr GO 0 0 0 0 0 0 0 0 0 | 1 => Bk9 wr GO V0 V1 V2 0 0 0 0 0 0 | 2 => Bk9 wr GO V0 V1 V2 V3 V4 V5 0 0 0 | _ => Bk9 wr GO V0 V1 V2 V3 V4 V5 V6 V7 V8) ∧ Bk9 wr GC c0 c1 c2 c3 c4 c5 c6 c7 c8 ∧ Below w.heap.size w wr) (fun y _ => 3 - (intOf y).toNat)
    case atStart => exact ⟨0, rfl, by omega, HO.out, HC.out, HB.out⟩
    case round =>
      obtain ⟨i, rfl, hi, hO, hC, hbel⟩ := hrel
      clear HO HC HB
      have HO0 := Lib.hid hO
      have HC := Lib.hid hC
      have HB := Lib.hid hbel
      clear hO hC hbel
      rcases (show i = 0 ∨ i = 1 ∨ i = 2 ∨ i = 3 by omega) with rfl | rfl | rfl | rfl
      · rw [show ((0 : Nat) : Int) = 0 from rfl]
        have HO : Hid (Bk9 wr GO 0 0 0 0 0 0 0 0 0) := HO0.out
        clear HO0
        obtain ⟨ne_O_C, ne_C_O, le_O⟩ := HNE.out
        obtain ⟨⟨qO0, qO1, qO2, qO3, qO4, qO5, qO6, qO7, qO8⟩, ⟨fO0, fO1, fO2, fO3, fO4, fO5, fO6, fO7, fO8⟩, zO⟩ := HO.out
        obtain ⟨⟨qC0, qC1, qC2, qC3, qC4, qC5, qC6, qC7, qC8⟩, ⟨fC0, fC1, fC2, fC3, fC4, fC5, fC6, fC7, fC8⟩, zC⟩ := HC.out
        go_upto_region 8 with fail
        clear qO0 fO0 qO1 fO1 qO2 fO2 qO3 fO3 qO4 fO4 qO5 fO5 qO6 fO6 qO7 fO7 qO8 fO8 zO qC0 fC0 qC1 fC1 qC2 fC2 qC3 fC3 qC4 fC4 qC5 fC5 qC6 fC6 qC7 fC7 qC8 fC8 zC
        go_wp2_with fail
        refine wp_region_held_drew (S := fun W => Below w.heap.size w W ∧ Bk9 W GC c0 c1 c2 c3 c4 c5 c6 c7 c8) (by kernel_rfl) ?_ (fun hHeld => ?_); focus ((try dsimp only); exact ⟨Below.drew HB.out, HC.out.below (Below.drew (Below.refl _ _))⟩)
        have HO := Lib.hid (HO.out.below (Below.drew (Below.refl _ _)))
        have HC := Lib.hid (HC.out.below (Below.drew (Below.refl _ _)))
        have hHeld : (fun W => Below w.heap.size w W ∧ Bk9 W GC c0 c1 c2 c3 c4 c5 c6 c7 c8) _ := hHeld
        obtain ⟨wD40, hwD40⟩ : ∃ wD, wr.drew = wD := ⟨_, rfl⟩
        rw [hwD40] at hHeld HO HC ⊢
        clear hwD40
        (refine wpAnyH_take (i := 0) (v := ?_) rfl (by kernel_rfl) (by kernel_rfl) (by kernel_rfl) (fun _ _ _ h => h) (Or.inl ⟨rfl, ?_⟩) (by assumption) ?_; rotate_left; focus (intro W hSw; (try dsimp only at hSw); obtain ⟨hSb, hxC⟩ := hSw; obtain ⟨⟨iC0, iC1, iC2, iC3, iC4, iC5, iC6, iC7, iC8⟩, _, _⟩ := hxC; go_simp; try (with_reducible rfl))); (try simp only [Act.put, List.getElem_toArray, List.getElem_cons_succ, List.getElem_cons_zero, List.setIfInBounds_toArray, List.set_cons_zero, List.set_cons_succ])
        (refine wpAnyH_take (i := 1) (v := ?_) rfl (by kernel_rfl) (by kernel_rfl) (by kernel_rfl) (fun _ _ _ h => h) (Or.inl ⟨rfl, ?_⟩) (by assumption) ?_; rotate_left; focus (intro W hSw; (try dsimp only at hSw); obtain ⟨hSb, hxC⟩ := hSw; obtain ⟨⟨iC0, iC1, iC2, iC3, iC4, iC5, iC6, iC7, iC8⟩, _, _⟩ := hxC; go_simp; try (with_reducible rfl))); (try simp only [Act.put, List.getElem_toArray, List.getElem_cons_succ, List.getElem_cons_zero, List.setIfInBounds_toArray, List.set_cons_zero, List.set_cons_succ])
        (refine wpAnyH_take (i := 2) (v := ?_) rfl (by kernel_rfl) (by kernel_rfl) (by kernel_rfl) (fun _ _ _ h => h) (Or.inl ⟨rfl, ?_⟩) (by assumption) ?_; rotate_left; focus (intro W hSw; (try dsimp only at hSw); obtain ⟨hSb, hxC⟩ := hSw; obtain ⟨⟨iC0, iC1, iC2, iC3, iC4, iC5, iC6, iC7, iC8⟩, _, _⟩ := hxC; go_simp; try (with_reducible rfl))); (try simp only [Act.put, List.getElem_toArray, List.getElem_cons_succ, List.getElem_cons_zero, List.setIfInBounds_toArray, List.set_cons_zero, List.set_cons_succ])
        (refine wpAnyH_take (i := 3) (v := ?_) rfl (by kernel_rfl) (by kernel_rfl) (by kernel_rfl) (fun _ _ _ h => h) (Or.inl ⟨rfl, ?_⟩) (by assumption) ?_; rotate_left; focus (intro W hSw; (try dsimp only at hSw); obtain ⟨hSb, hxC⟩ := hSw; obtain ⟨⟨iC0, iC1, iC2, iC3, iC4, iC5, iC6, iC7, iC8⟩, _, _⟩ := hxC; go_simp; try (with_reducible rfl))); (try simp only [Act.put, List.getElem_toArray, List.getElem_cons_succ, List.getElem_cons_zero, List.setIfInBounds_toArray, List.set_cons_zero, List.set_cons_succ])
        (refine wpAnyH_take (i := 4) (v := ?_) rfl (by kernel_rfl) (by kernel_rfl) (by kernel_rfl) (fun _ _ _ h => h) (Or.inl ⟨rfl, ?_⟩) (by assumption) ?_; rotate_left; focus (intro W hSw; (try dsimp only at hSw); obtain ⟨hSb, hxC⟩ := hSw; obtain ⟨⟨iC0, iC1, iC2, iC3, iC4, iC5, iC6, iC7, iC8⟩, _, _⟩ := hxC; go_simp; try (with_reducible rfl))); (try simp only [Act.put, List.getElem_toArray, List.getElem_cons_succ, List.getElem_cons_zero, List.setIfInBounds_toArray, List.set_cons_zero, List.set_cons_succ])
        (refine wpAnyH_take (i := 5) (v := ?_) rfl (by kernel_rfl) (by kernel_rfl) (by kernel_rfl) (fun _ _ _ h => h) (Or.inl ⟨rfl, ?_⟩) (by assumption) ?_; rotate_left; focus (intro W hSw; (try dsimp only at hSw); obtain ⟨hSb, hxC⟩ := hSw; obtain ⟨⟨iC0, iC1, iC2, iC3, iC4, iC5, iC6, iC7, iC8⟩, _, _⟩ := hxC; go_simp; try (with_reducible rfl))); (try simp only [Act.put, List.getElem_toArray, List.getElem_cons_succ, List.getElem_cons_zero, List.setIfInBounds_toArray, List.set_cons_zero, List.set_cons_succ])
        (refine wpAnyH_take (i := 6) (v := ?_) rfl (by kernel_rfl) (by kernel_rfl) (by kernel_rfl) (fun _ _ _ h => h) (Or.inl ⟨rfl, ?_⟩) (by assumption) ?_; rotate_left; focus (intro W hSw; (try dsimp only at hSw); obtain ⟨hSb, hxC⟩ := hSw; obtain ⟨⟨iC0, iC1, iC2, iC3, iC4, iC5, iC6, iC7, iC8⟩, _, _⟩ := hxC; go_simp; try (with_reducible rfl))); (try simp only [Act.put, List.getElem_toArray, List.getElem_cons_succ, List.getElem_cons_zero, List.setIfInBounds_toArray, List.set_cons_zero, List.set_cons_succ])
        (refine wpAnyH_take (i := 7) (v := ?_) rfl (by kernel_rfl) (by kernel_rfl) (by kernel_rfl) (fun _ _ _ h => h) (Or.inl ⟨rfl, ?_⟩) (by assumption) ?_; rotate_left; focus (intro W hSw; (try dsimp only at hSw); obtain ⟨hSb, hxC⟩ := hSw; obtain ⟨⟨iC0, iC1, iC2, iC3, iC4, iC5, iC6, iC7, iC8⟩, _, _⟩ := hxC; go_simp; try (with_reducible rfl))); (try simp only [Act.put, List.getElem_toArray, List.getElem_cons_succ, List.getElem_cons_zero, List.setIfInBounds_toArray, List.set_cons_zero, List.set_cons_succ])
        (refine wpAnyH_take (i := 8) (v := ?_) rfl (by kernel_rfl) (by kernel_rfl) (by kernel_rfl) (fun _ _ _ h => h) (Or.inl ⟨rfl, ?_⟩) (by assumption) ?_; rotate_left; focus (intro W hSw; (try dsimp only at hSw); obtain ⟨hSb, hxC⟩ := hSw; obtain ⟨⟨iC0, iC1, iC2, iC3, iC4, iC5, iC6, iC7, iC8⟩, _, _⟩ := hxC; go_simp; try (with_reducible rfl))); (try simp only [Act.put, List.getElem_toArray, List.getElem_cons_succ, List.getElem_cons_zero, List.setIfInBounds_toArray, List.set_cons_zero, List.set_cons_succ])
        (refine wpAnyH_take (i := 9) (v := ?_) rfl (by kernel_rfl) (by kernel_rfl) (by kernel_rfl) (fun _ _ _ h => h) (Or.inl ⟨rfl, ?_⟩) (by assumption) ?_; rotate_left; focus (intro W hSw; (try dsimp only at hSw); obtain ⟨hSb, hxC⟩ := hSw; obtain ⟨⟨iC0, iC1, iC2, iC3, iC4, iC5, iC6, iC7, iC8⟩, _, _⟩ := hxC; go_simp; try (with_reducible rfl))); (try simp only [Act.put, List.getElem_toArray, List.getElem_cons_succ, List.getElem_cons_zero, List.setIfInBounds_toArray, List.set_cons_zero, List.set_cons_succ])
        (refine wpAnyH_take (i := 10) (v := ?_) rfl (by kernel_rfl) (by kernel_rfl) (by kernel_rfl) (fun _ _ _ h => h) (Or.inl ⟨rfl, ?_⟩) (by assumption) ?_; rotate_left; focus (intro W hSw; (try dsimp only at hSw); obtain ⟨hSb, hxC⟩ := hSw; obtain ⟨⟨iC0, iC1, iC2, iC3, iC4, iC5, iC6, iC7, iC8⟩, _, _⟩ := hxC; go_simp; try (with_reducible rfl))); (try simp only [Act.put, List.getElem_toArray, List.getElem_cons_succ, List.getElem_cons_zero, List.setIfInBounds_toArray, List.set_cons_zero, List.set_cons_succ])
        (refine wpAnyH_take (i := 11) (v := ?_) rfl (by kernel_rfl) (by kernel_rfl) (by kernel_rfl) (fun _ _ _ h => h) (Or.inl ⟨rfl, ?_⟩) (by assumption) ?_; rotate_left; focus (intro W hSw; (try dsimp only at hSw); obtain ⟨hSb, hxC⟩ := hSw; obtain ⟨⟨iC0, iC1, iC2, iC3, iC4, iC5, iC6, iC7, iC8⟩, _, _⟩ := hxC; go_simp; try (with_reducible rfl))); (try simp only [Act.put, List.getElem_toArray, List.getElem_cons_succ, List.getElem_cons_zero, List.setIfInBounds_toArray, List.set_cons_zero, List.set_cons_succ])
        (refine wpAnyH_take (i := 12) (v := ?_) rfl (by kernel_rfl) (by kernel_rfl) (by kernel_rfl) (fun _ _ _ h => h) (Or.inl ⟨rfl, ?_⟩) (by assumption) ?_; rotate_left; focus (intro W hSw; (try dsimp only at hSw); obtain ⟨hSb, hxC⟩ := hSw; obtain ⟨⟨iC0, iC1, iC2, iC3, iC4, iC5, iC6, iC7, iC8⟩, _, _⟩ := hxC; go_simp; try (with_reducible rfl))); (try simp only [Act.put, List.getElem_toArray, List.getElem_cons_succ, List.getElem_cons_zero, List.setIfInBounds_toArray, List.set_cons_zero, List.set_cons_succ])
        (refine wpAnyH_take (i := 14) (v := ?_) rfl (by kernel_rfl) (by kernel_rfl) (by kernel_rfl) (fun _ _ _ h => h) (Or.inl ⟨rfl, ?_⟩) (by assumption) ?_; rotate_left; focus (intro W hSw; (try dsimp only at hSw); obtain ⟨hSb, hxC⟩ := hSw; obtain ⟨⟨iC0, iC1, iC2, iC3, iC4, iC5, iC6, iC7, iC8⟩, _, _⟩ := hxC; go_simp; try (with_reducible rfl))); (try simp only [Act.put, List.getElem_toArray, List.getElem_cons_succ, List.getElem_cons_zero, List.setIfInBounds_toArray, List.set_cons_zero, List.set_cons_succ])
        refine wpAnyH_ready (rs := [13]) (by kernel_rfl) (by simp) ?_; refine AllReadyH.cons rfl (fun K hK => ?_) AllReadyH.nil
        go_simp; (go_at_call 50; refine (HC0.out _).mono ?_; rintro en ywr40x0 ⟨rfl, hb2⟩); have HO := Lib.hid (HO.out.below hb2); have HC := Lib.hid (HC.out.below hb2); refine hK.out _ _ ⟨below_after hb2 hHeld.1, HC.out⟩ (fun hHeld2 => ?_); clear hb2; (clear hHeld; rename _ => hHeld; clear hK K; have hHeld : (fun W => Below w.heap.size w W ∧ Bk9 W GC c0 c1 c2 c3 c4 c5 c6 c7 c8) _ := hHeld); (try simp only [Act.put, List.getElem_toArray, List.getElem_cons_succ, List.getElem_cons_zero, List.setIfInBounds_toArray, List.set_cons_zero, List.set_cons_succ])
        refine wpAnyH_ready (rs := [15]) (by kernel_rfl) (by simp) ?_; refine AllReadyH.cons rfl (fun K hK => ?_) AllReadyH.nil
        go_simp; (go_at_call 96; refine (HP0.out _).mono ?_; rintro en ywr40x1 ⟨rfl, hb2⟩); have HO := Lib.hid (HO.out.below hb2); have HC := Lib.hid (HC.out.below hb2); refine hK.out _ _ ⟨below_after hb2 hHeld.1, HC.out⟩ (fun hHeld2 => ?_); clear hb2; (clear hHeld; rename _ => hHeld; clear hK K; have hHeld : (fun W => Below w.heap.size w W ∧ Bk9 W GC c0 c1 c2 c3 c4 c5 c6 c7 c8) _ := hHeld); (try simp only [Act.put, List.getElem_toArray, List.getElem_cons_succ, List.getElem_cons_zero, List.setIfInBounds_toArray, List.set_cons_zero, List.set_cons_succ])
        (refine wpAnyH_take (i := 16) (v := ?_) rfl (by kernel_rfl) (by kernel_rfl) (by kernel_rfl) (fun _ _ _ h => h) (Or.inl ⟨rfl, ?_⟩) (by assumption) ?_; rotate_left; focus (intro W hSw; (try dsimp only at hSw); obtain ⟨hSb, hxC⟩ := hSw; obtain ⟨⟨iC0, iC1, iC2, iC3, iC4, iC5, iC6, iC7, iC8⟩, _, _⟩ := hxC; go_simp; try (with_reducible rfl))); (try simp only [Act.put, List.getElem_toArray, List.getElem_cons_succ, List.getElem_cons_zero, List.setIfInBounds_toArray, List.set_cons_zero, List.set_cons_succ])
        refine wpAnyH_ready (rs := [17]) (by kernel_rfl) (by simp) ?_; refine AllReadyH.cons rfl (fun K hK => ?_) AllReadyH.nil
        obtain ⟨⟨a0, a1, a2, a3, a4, a5, a6, a7, a8⟩, ⟨f0, f1, f2, f3, f4, f5, f6, f7, f8⟩, az⟩ := HO.out; go_simp; clear a0 f0 a1 f1 a2 f2 a3 f3 a4 f4 a5 f5 a6 f6 a7 f7 a8 f8 az
        have HC := Lib.hid (((HC.out.far ⟨GO, 0, none⟩ (.int .i64 V0) (by show GC ≠ GO; exact ne_C_O)).far ⟨GO, 1, none⟩ (.int .i64 V1) (by show GC ≠ GO; exact ne_C_O)).far ⟨GO, 2, none⟩ (.int .i64 V2) (by show GC ≠ GO; exact ne_C_O))
        have HO := Lib.hid (((HO.out.set0 V0).set1 V1).set2 V2)
        refine hK.out _ _ ⟨(Below.setCell (Below.setCell (Below.setCell hHeld.1 (p := ⟨GO, 0, none⟩) le_O _) (p := ⟨GO, 1, none⟩) le_O _) (p := ⟨GO, 2, none⟩) le_O _), HC.out⟩ (fun hHeld2 => ?_); (clear hHeld; rename _ => hHeld; clear hK K; have hHeld : (fun W => Below w.heap.size w W ∧ Bk9 W GC c0 c1 c2 c3 c4 c5 c6 c7 c8) _ := hHeld); (try simp only [Act.put, List.getElem_toArray, List.getElem_cons_succ, List.getElem_cons_zero, List.setIfInBounds_toArray, List.set_cons_zero, List.set_cons_succ])
        obtain ⟨ywr40x2, hwx⟩ : ∃ wx, ((ywr40x1.setCell ⟨GO, 0, none⟩ (.int .i64 V0)).setCell ⟨GO, 1, none⟩ (.int .i64 V1)).setCell ⟨GO, 2, none⟩ (.int .i64 V2) = wx := ⟨_, rfl⟩; rw [hwx] at HO HC hHeld ⊢; clear hwx
        refine wpAnyH_done (by kernel_rfl) ?_ _
        have HB := Lib.hid (hHeld.1)
        clear hHeld
        obtain ⟨⟨qO0, qO1, qO2, qO3, qO4, qO5, qO6, qO7, qO8⟩, ⟨fO0, fO1, fO2, fO3, fO4, fO5, fO6, fO7, fO8⟩, zO⟩ := HO.out
        obtain ⟨⟨qC0, qC1, qC2, qC3, qC4, qC5, qC6, qC7, qC8⟩, ⟨fC0, fC1, fC2, fC3, fC4, fC5, fC6, fC7, fC8⟩, zC⟩ := HC.out
        go_wp2_with fail
        clear qO0 fO0 qO1 fO1 qO2 fO2 qO3 fO3 qO4 fO4 qO5 fO5 qO6 fO6 qO7 fO7 qO8 fO8 zO qC0 fC0 qC1 fC1 qC2 fC2 qC3 fC3 qC4 fC4 qC5 fC5 qC6 fC6 qC7 fC7 qC8 fC8 zC
        go_roundw
        case rel => exact ⟨0 + 1, by first | rfl | go_num, by omega, HO.out, HC.out, HB.out⟩
        case measure => simp only [intOf]; omega
      · rw [show ((1 : Nat) : Int) = 1 from rfl]
        have HO : Hid (Bk9 wr GO V0 V1 V2 0 0 0 0 0 0) := HO0.out
        clear HO0
        obtain ⟨ne_O_C, ne_C_O, le_O⟩ := HNE.out
        obtain ⟨⟨qO0, qO1, qO2, qO3, qO4, qO5, qO6, qO7, qO8⟩, ⟨fO0, fO1, fO2, fO3, fO4, fO5, fO6, fO7, fO8⟩, zO⟩ := HO.out
        obtain ⟨⟨qC0, qC1, qC2, qC3, qC4, qC5, qC6, qC7, qC8⟩, ⟨fC0, fC1, fC2, fC3, fC4, fC5, fC6, fC7, fC8⟩, zC⟩ := HC.out
        go_upto_region 8 with fail
        clear qO0 fO0 qO1 fO1 qO2 fO2 qO3 fO3 qO4 fO4 qO5 fO5 qO6 fO6 qO7 fO7 qO8 fO8 zO qC0 fC0 qC1 fC1 qC2 fC2 qC3 fC3 qC4 fC4 qC5 fC5 qC6 fC6 qC7 fC7 qC8 fC8 zC
        go_wp2_with fail
        refine wp_region_held_drew (S := fun W => Below w.heap.size w W ∧ Bk9 W GC c0 c1 c2 c3 c4 c5 c6 c7 c8) (by kernel_rfl) ?_ (fun hHeld => ?_); focus ((try dsimp only); exact ⟨Below.drew HB.out, HC.out.below (Below.drew (Below.refl _ _))⟩)
        have HO := Lib.hid (HO.out.below (Below.drew (Below.refl _ _)))
        have HC := Lib.hid (HC.out.below (Below.drew (Below.refl _ _)))
        have hHeld : (fun W => Below w.heap.size w W ∧ Bk9 W GC c0 c1 c2 c3 c4 c5 c6 c7 c8) _ := hHeld
        obtain ⟨wD60, hwD60⟩ : ∃ wD, wr.drew = wD := ⟨_, rfl⟩
        rw [hwD60] at hHeld HO HC ⊢
        clear hwD60
        (refine wpAnyH_take (i := 0) (v := ?_) rfl (by kernel_rfl) (by kernel_rfl) (by kernel_rfl) (fun _ _ _ h => h) (Or.inl ⟨rfl, ?_⟩) (by assumption) ?_; rotate_left; focus (intro W hSw; (try dsimp only at hSw); obtain ⟨hSb, hxC⟩ := hSw; obtain ⟨⟨iC0, iC1, iC2, iC3, iC4, iC5, iC6, iC7, iC8⟩, _, _⟩ := hxC; go_simp; try (with_reducible rfl))); (try simp only [Act.put, List.getElem_toArray, List.getElem_cons_succ, List.getElem_cons_zero, List.setIfInBounds_toArray, List.set_cons_zero, List.set_cons_succ])
        (refine wpAnyH_take (i := 1) (v := ?_) rfl (by kernel_rfl) (by kernel_rfl) (by kernel_rfl) (fun _ _ _ h => h) (Or.inl ⟨rfl, ?_⟩) (by assumption) ?_; rotate_left; focus (intro W hSw; (try dsimp only at hSw); obtain ⟨hSb, hxC⟩ := hSw; obtain ⟨⟨iC0, iC1, iC2, iC3, iC4, iC5, iC6, iC7, iC8⟩, _, _⟩ := hxC; go_simp; try (with_reducible rfl))); (try simp only [Act.put, List.getElem_toArray, List.getElem_cons_succ, List.getElem_cons_zero, List.setIfInBounds_toArray, List.set_cons_zero, List.set_cons_succ])
        (refine wpAnyH_take (i := 2) (v := ?_) rfl (by kernel_rfl) (by kernel_rfl) (by kernel_rfl) (fun _ _ _ h => h) (Or.inl ⟨rfl, ?_⟩) (by assumption) ?_; rotate_left; focus (intro W hSw; (try dsimp only at hSw); obtain ⟨hSb, hxC⟩ := hSw; obtain ⟨⟨iC0, iC1, iC2, iC3, iC4, iC5, iC6, iC7, iC8⟩, _, _⟩ := hxC; go_simp; try (with_reducible rfl))); (try simp only [Act.put, List.getElem_toArray, List.getElem_cons_succ, List.getElem_cons_zero, List.setIfInBounds_toArray, List.set_cons_zero, List.set_cons_succ])
        (refine wpAnyH_take (i := 3) (v := ?_) rfl (by kernel_rfl) (by kernel_rfl) (by kernel_rfl) (fun _ _ _ h => h) (Or.inl ⟨rfl, ?_⟩) (by assumption) ?_; rotate_left; focus (intro W hSw; (try dsimp only at hSw); obtain ⟨hSb, hxC⟩ := hSw; obtain ⟨⟨iC0, iC1, iC2, iC3, iC4, iC5, iC6, iC7, iC8⟩, _, _⟩ := hxC; go_simp; try (with_reducible rfl))); (try simp only [Act.put, List.getElem_toArray, List.getElem_cons_succ, List.getElem_cons_zero, List.setIfInBounds_toArray, List.set_cons_zero, List.set_cons_succ])
        (refine wpAnyH_take (i := 4) (v := ?_) rfl (by kernel_rfl) (by kernel_rfl) (by kernel_rfl) (fun _ _ _ h => h) (Or.inl ⟨rfl, ?_⟩) (by assumption) ?_; rotate_left; focus (intro W hSw; (try dsimp only at hSw); obtain ⟨hSb, hxC⟩ := hSw; obtain ⟨⟨iC0, iC1, iC2, iC3, iC4, iC5, iC6, iC7, iC8⟩, _, _⟩ := hxC; go_simp; try (with_reducible rfl))); (try simp only [Act.put, List.getElem_toArray, List.getElem_cons_succ, List.getElem_cons_zero, List.setIfInBounds_toArray, List.set_cons_zero, List.set_cons_succ])
        (refine wpAnyH_take (i := 5) (v := ?_) rfl (by kernel_rfl) (by kernel_rfl) (by kernel_rfl) (fun _ _ _ h => h) (Or.inl ⟨rfl, ?_⟩) (by assumption) ?_; rotate_left; focus (intro W hSw; (try dsimp only at hSw); obtain ⟨hSb, hxC⟩ := hSw; obtain ⟨⟨iC0, iC1, iC2, iC3, iC4, iC5, iC6, iC7, iC8⟩, _, _⟩ := hxC; go_simp; try (with_reducible rfl))); (try simp only [Act.put, List.getElem_toArray, List.getElem_cons_succ, List.getElem_cons_zero, List.setIfInBounds_toArray, List.set_cons_zero, List.set_cons_succ])
        (refine wpAnyH_take (i := 6) (v := ?_) rfl (by kernel_rfl) (by kernel_rfl) (by kernel_rfl) (fun _ _ _ h => h) (Or.inl ⟨rfl, ?_⟩) (by assumption) ?_; rotate_left; focus (intro W hSw; (try dsimp only at hSw); obtain ⟨hSb, hxC⟩ := hSw; obtain ⟨⟨iC0, iC1, iC2, iC3, iC4, iC5, iC6, iC7, iC8⟩, _, _⟩ := hxC; go_simp; try (with_reducible rfl))); (try simp only [Act.put, List.getElem_toArray, List.getElem_cons_succ, List.getElem_cons_zero, List.setIfInBounds_toArray, List.set_cons_zero, List.set_cons_succ])
        (refine wpAnyH_take (i := 7) (v := ?_) rfl (by kernel_rfl) (by kernel_rfl) (by kernel_rfl) (fun _ _ _ h => h) (Or.inl ⟨rfl, ?_⟩) (by assumption) ?_; rotate_left; focus (intro W hSw; (try dsimp only at hSw); obtain ⟨hSb, hxC⟩ := hSw; obtain ⟨⟨iC0, iC1, iC2, iC3, iC4, iC5, iC6, iC7, iC8⟩, _, _⟩ := hxC; go_simp; try (with_reducible rfl))); (try simp only [Act.put, List.getElem_toArray, List.getElem_cons_succ, List.getElem_cons_zero, List.setIfInBounds_toArray, List.set_cons_zero, List.set_cons_succ])
        (refine wpAnyH_take (i := 8) (v := ?_) rfl (by kernel_rfl) (by kernel_rfl) (by kernel_rfl) (fun _ _ _ h => h) (Or.inl ⟨rfl, ?_⟩) (by assumption) ?_; rotate_left; focus (intro W hSw; (try dsimp only at hSw); obtain ⟨hSb, hxC⟩ := hSw; obtain ⟨⟨iC0, iC1, iC2, iC3, iC4, iC5, iC6, iC7, iC8⟩, _, _⟩ := hxC; go_simp; try (with_reducible rfl))); (try simp only [Act.put, List.getElem_toArray, List.getElem_cons_succ, List.getElem_cons_zero, List.setIfInBounds_toArray, List.set_cons_zero, List.set_cons_succ])
        (refine wpAnyH_take (i := 9) (v := ?_) rfl (by kernel_rfl) (by kernel_rfl) (by kernel_rfl) (fun _ _ _ h => h) (Or.inl ⟨rfl, ?_⟩) (by assumption) ?_; rotate_left; focus (intro W hSw; (try dsimp only at hSw); obtain ⟨hSb, hxC⟩ := hSw; obtain ⟨⟨iC0, iC1, iC2, iC3, iC4, iC5, iC6, iC7, iC8⟩, _, _⟩ := hxC; go_simp; try (with_reducible rfl))); (try simp only [Act.put, List.getElem_toArray, List.getElem_cons_succ, List.getElem_cons_zero, List.setIfInBounds_toArray, List.set_cons_zero, List.set_cons_succ])
        (refine wpAnyH_take (i := 10) (v := ?_) rfl (by kernel_rfl) (by kernel_rfl) (by kernel_rfl) (fun _ _ _ h => h) (Or.inl ⟨rfl, ?_⟩) (by assumption) ?_; rotate_left; focus (intro W hSw; (try dsimp only at hSw); obtain ⟨hSb, hxC⟩ := hSw; obtain ⟨⟨iC0, iC1, iC2, iC3, iC4, iC5, iC6, iC7, iC8⟩, _, _⟩ := hxC; go_simp; try (with_reducible rfl))); (try simp only [Act.put, List.getElem_toArray, List.getElem_cons_succ, List.getElem_cons_zero, List.setIfInBounds_toArray, List.set_cons_zero, List.set_cons_succ])
        (refine wpAnyH_take (i := 11) (v := ?_) rfl (by kernel_rfl) (by kernel_rfl) (by kernel_rfl) (fun _ _ _ h => h) (Or.inl ⟨rfl, ?_⟩) (by assumption) ?_; rotate_left; focus (intro W hSw; (try dsimp only at hSw); obtain ⟨hSb, hxC⟩ := hSw; obtain ⟨⟨iC0, iC1, iC2, iC3, iC4, iC5, iC6, iC7, iC8⟩, _, _⟩ := hxC; go_simp; try (with_reducible rfl))); (try simp only [Act.put, List.getElem_toArray, List.getElem_cons_succ, List.getElem_cons_zero, List.setIfInBounds_toArray, List.set_cons_zero, List.set_cons_succ])
        (refine wpAnyH_take (i := 12) (v := ?_) rfl (by kernel_rfl) (by kernel_rfl) (by kernel_rfl) (fun _ _ _ h => h) (Or.inl ⟨rfl, ?_⟩) (by assumption) ?_; rotate_left; focus (intro W hSw; (try dsimp only at hSw); obtain ⟨hSb, hxC⟩ := hSw; obtain ⟨⟨iC0, iC1, iC2, iC3, iC4, iC5, iC6, iC7, iC8⟩, _, _⟩ := hxC; go_simp; try (with_reducible rfl))); (try simp only [Act.put, List.getElem_toArray, List.getElem_cons_succ, List.getElem_cons_zero, List.setIfInBounds_toArray, List.set_cons_zero, List.set_cons_succ])
        (refine wpAnyH_take (i := 14) (v := ?_) rfl (by kernel_rfl) (by kernel_rfl) (by kernel_rfl) (fun _ _ _ h => h) (Or.inl ⟨rfl, ?_⟩) (by assumption) ?_; rotate_left; focus (intro W hSw; (try dsimp only at hSw); obtain ⟨hSb, hxC⟩ := hSw; obtain ⟨⟨iC0, iC1, iC2, iC3, iC4, iC5, iC6, iC7, iC8⟩, _, _⟩ := hxC; go_simp; try (with_reducible rfl))); (try simp only [Act.put, List.getElem_toArray, List.getElem_cons_succ, List.getElem_cons_zero, List.setIfInBounds_toArray, List.set_cons_zero, List.set_cons_succ])
        refine wpAnyH_ready (rs := [13]) (by kernel_rfl) (by simp) ?_; refine AllReadyH.cons rfl (fun K hK => ?_) AllReadyH.nil
        go_simp; (go_at_call 50; refine (HC1.out _).mono ?_; rintro en ywr60x0 ⟨rfl, hb2⟩); have HO := Lib.hid (HO.out.below hb2); have HC := Lib.hid (HC.out.below hb2); refine hK.out _ _ ⟨below_after hb2 hHeld.1, HC.out⟩ (fun hHeld2 => ?_); clear hb2; (clear hHeld; rename _ => hHeld; clear hK K; have hHeld : (fun W => Below w.heap.size w W ∧ Bk9 W GC c0 c1 c2 c3 c4 c5 c6 c7 c8) _ := hHeld); (try simp only [Act.put, List.getElem_toArray, List.getElem_cons_succ, List.getElem_cons_zero, List.setIfInBounds_toArray, List.set_cons_zero, List.set_cons_succ])
        refine wpAnyH_ready (rs := [15]) (by kernel_rfl) (by simp) ?_; refine AllReadyH.cons rfl (fun K hK => ?_) AllReadyH.nil
        go_simp; (go_at_call 96; refine (HP1.out _).mono ?_; rintro en ywr60x1 ⟨rfl, hb2⟩); have HO := Lib.hid (HO.out.below hb2); have HC := Lib.hid (HC.out.below hb2); refine hK.out _ _ ⟨below_after hb2 hHeld.1, HC.out⟩ (fun hHeld2 => ?_); clear hb2; (clear hHeld; rename _ => hHeld; clear hK K; have hHeld : (fun W => Below w.heap.size w W ∧ Bk9 W GC c0 c1 c2 c3 c4 c5 c6 c7 c8) _ := hHeld); (try simp only [Act.put, List.getElem_toArray, List.getElem_cons_succ, List.getElem_cons_zero, List.setIfInBounds_toArray, List.set_cons_zero, List.set_cons_succ])
        (refine wpAnyH_take (i := 16) (v := ?_) rfl (by kernel_rfl) (by kernel_rfl) (by kernel_rfl) (fun _ _ _ h => h) (Or.inl ⟨rfl, ?_⟩) (by assumption) ?_; rotate_left; focus (intro W hSw; (try dsimp only at hSw); obtain ⟨hSb, hxC⟩ := hSw; obtain ⟨⟨iC0, iC1, iC2, iC3, iC4, iC5, iC6, iC7, iC8⟩, _, _⟩ := hxC; go_simp; try (with_reducible rfl))); (try simp only [Act.put, List.getElem_toArray, List.getElem_cons_succ, List.getElem_cons_zero, List.setIfInBounds_toArray, List.set_cons_zero, List.set_cons_succ])
        refine wpAnyH_ready (rs := [17]) (by kernel_rfl) (by simp) ?_; refine AllReadyH.cons rfl (fun K hK => ?_) AllReadyH.nil
        obtain ⟨⟨a0, a1, a2, a3, a4, a5, a6, a7, a8⟩, ⟨f0, f1, f2, f3, f4, f5, f6, f7, f8⟩, az⟩ := HO.out; go_simp; clear a0 f0 a1 f1 a2 f2 a3 f3 a4 f4 a5 f5 a6 f6 a7 f7 a8 f8 az
        have HC := Lib.hid (((HC.out.far ⟨GO, 3, none⟩ (.int .i64 V3) (by show GC ≠ GO; exact ne_C_O)).far ⟨GO, 4, none⟩ (.int .i64 V4) (by show GC ≠ GO; exact ne_C_O)).far ⟨GO, 5, none⟩ (.int .i64 V5) (by show GC ≠ GO; exact ne_C_O))
        have HO := Lib.hid (((HO.out.set3 V3).set4 V4).set5 V5)
        refine hK.out _ _ ⟨(Below.setCell (Below.setCell (Below.setCell hHeld.1 (p := ⟨GO, 3, none⟩) le_O _) (p := ⟨GO, 4, none⟩) le_O _) (p := ⟨GO, 5, none⟩) le_O _), HC.out⟩ (fun hHeld2 => ?_); (clear hHeld; rename _ => hHeld; clear hK K; have hHeld : (fun W => Below w.heap.size w W ∧ Bk9 W GC c0 c1 c2 c3 c4 c5 c6 c7 c8) _ := hHeld); (try simp only [Act.put, List.getElem_toArray, List.getElem_cons_succ, List.getElem_cons_zero, List.setIfInBounds_toArray, List.set_cons_zero, List.set_cons_succ])
        obtain ⟨ywr60x2, hwx⟩ : ∃ wx, ((ywr60x1.setCell ⟨GO, 3, none⟩ (.int .i64 V3)).setCell ⟨GO, 4, none⟩ (.int .i64 V4)).setCell ⟨GO, 5, none⟩ (.int .i64 V5) = wx := ⟨_, rfl⟩; rw [hwx] at HO HC hHeld ⊢; clear hwx
        refine wpAnyH_done (by kernel_rfl) ?_ _
        have HB := Lib.hid (hHeld.1)
        clear hHeld
        obtain ⟨⟨qO0, qO1, qO2, qO3, qO4, qO5, qO6, qO7, qO8⟩, ⟨fO0, fO1, fO2, fO3, fO4, fO5, fO6, fO7, fO8⟩, zO⟩ := HO.out
        obtain ⟨⟨qC0, qC1, qC2, qC3, qC4, qC5, qC6, qC7, qC8⟩, ⟨fC0, fC1, fC2, fC3, fC4, fC5, fC6, fC7, fC8⟩, zC⟩ := HC.out
        go_wp2_with fail
        clear qO0 fO0 qO1 fO1 qO2 fO2 qO3 fO3 qO4 fO4 qO5 fO5 qO6 fO6 qO7 fO7 qO8 fO8 zO qC0 fC0 qC1 fC1 qC2 fC2 qC3 fC3 qC4 fC4 qC5 fC5 qC6 fC6 qC7 fC7 qC8 fC8 zC
        go_roundw
        case rel => exact ⟨1 + 1, by first | rfl | go_num, by omega, HO.out, HC.out, HB.out⟩
        case measure => simp only [intOf]; omega
      · rw [show ((2 : Nat) : Int) = 2 from rfl]
        have HO : Hid (Bk9 wr GO V0 V1 V2 V3 V4 V5 0 0 0) := HO0.out
        clear HO0
        obtain ⟨ne_O_C, ne_C_O, le_O⟩ := HNE.out
        obtain ⟨⟨qO0, qO1, qO2, qO3, qO4, qO5, qO6, qO7, qO8⟩, ⟨fO0, fO1, fO2, fO3, fO4, fO5, fO6, fO7, fO8⟩, zO⟩ := HO.out
        obtain ⟨⟨qC0, qC1, qC2, qC3, qC4, qC5, qC6, qC7, qC8⟩, ⟨fC0, fC1, fC2, fC3, fC4, fC5, fC6, fC7, fC8⟩, zC⟩ := HC.out
        go_upto_region 8 with fail
        clear qO0 fO0 qO1 fO1 qO2 fO2 qO3 fO3 qO4 fO4 qO5 fO5 qO6 fO6 qO7 fO7 qO8 fO8 zO qC0 fC0 qC1 fC1 qC2 fC2 qC3 fC3 qC4 fC4 qC5 fC5 qC6 fC6 qC7 fC7 qC8 fC8 zC
        go_wp2_with fail
        refine wp_region_held_drew (S := fun W => Below w.heap.size w W ∧ Bk9 W GC c0 c1 c2 c3 c4 c5 c6 c7 c8) (by kernel_rfl) ?_ (fun hHeld => ?_); focus ((try dsimp only); exact ⟨Below.drew HB.out, HC.out.below (Below.drew (Below.refl _ _))⟩)
        have HO := Lib.hid (HO.out.below (Below.drew (Below.refl _ _)))
        have HC := Lib.hid (HC.out.below (Below.drew (Below.refl _ _)))
        have hHeld : (fun W => Below w.heap.size w W ∧ Bk9 W GC c0 c1 c2 c3 c4 c5 c6 c7 c8) _ := hHeld
        obtain ⟨wD80, hwD80⟩ : ∃ wD, wr.drew = wD := ⟨_, rfl⟩
        rw [hwD80] at hHeld HO HC ⊢
        clear hwD80
        (refine wpAnyH_take (i := 0) (v := ?_) rfl (by kernel_rfl) (by kernel_rfl) (by kernel_rfl) (fun _ _ _ h => h) (Or.inl ⟨rfl, ?_⟩) (by assumption) ?_; rotate_left; focus (intro W hSw; (try dsimp only at hSw); obtain ⟨hSb, hxC⟩ := hSw; obtain ⟨⟨iC0, iC1, iC2, iC3, iC4, iC5, iC6, iC7, iC8⟩, _, _⟩ := hxC; go_simp; try (with_reducible rfl))); (try simp only [Act.put, List.getElem_toArray, List.getElem_cons_succ, List.getElem_cons_zero, List.setIfInBounds_toArray, List.set_cons_zero, List.set_cons_succ])
        (refine wpAnyH_take (i := 1) (v := ?_) rfl (by kernel_rfl) (by kernel_rfl) (by kernel_rfl) (fun _ _ _ h => h) (Or.inl ⟨rfl, ?_⟩) (by assumption) ?_; rotate_left; focus (intro W hSw; (try dsimp only at hSw); obtain ⟨hSb, hxC⟩ := hSw; obtain ⟨⟨iC0, iC1, iC2, iC3, iC4, iC5, iC6, iC7, iC8⟩, _, _⟩ := hxC; go_simp; try (with_reducible rfl))); (try simp only [Act.put, List.getElem_toArray, List.getElem_cons_succ, List.getElem_cons_zero, List.setIfInBounds_toArray, List.set_cons_zero, List.set_cons_succ])
        (refine wpAnyH_take (i := 2) (v := ?_) rfl (by kernel_rfl) (by kernel_rfl) (by kernel_rfl) (fun _ _ _ h => h) (Or.inl ⟨rfl, ?_⟩) (by assumption) ?_; rotate_left; focus (intro W hSw; (try dsimp only at hSw); obtain ⟨hSb, hxC⟩ := hSw; obtain ⟨⟨iC0, iC1, iC2, iC3, iC4, iC5, iC6, iC7, iC8⟩, _, _⟩ := hxC; go_simp; try (with_reducible rfl))); (try simp only [Act.put, List.getElem_toArray, List.getElem_cons_succ, List.getElem_cons_zero, List.setIfInBounds_toArray, List.set_cons_zero, List.set_cons_succ])
        (refine wpAnyH_take (i := 3) (v := ?_) rfl (by kernel_rfl) (by kernel_rfl) (by kernel_rfl) (fun _ _ _ h => h) (Or.inl ⟨rfl, ?_⟩) (by assumption) ?_; rotate_left; focus (intro W hSw; (try dsimp only at hSw); obtain ⟨hSb, hxC⟩ := hSw; obtain ⟨⟨iC0, iC1, iC2, iC3, iC4, iC5, iC6, iC7, iC8⟩, _, _⟩ := hxC; go_simp; try (with_reducible rfl))); (try simp only [Act.put, List.getElem_toArray, List.getElem_cons_succ, List.getElem_cons_zero, List.setIfInBounds_toArray, List.set_cons_zero, List.set_cons_succ])
        (refine wpAnyH_take (i := 4) (v := ?_) rfl (by kernel_rfl) (by kernel_rfl) (by kernel_rfl) (fun _ _ _ h => h) (Or.inl ⟨rfl, ?_⟩) (by assumption) ?_; rotate_left; focus (intro W hSw; (try dsimp only at hSw); obtain ⟨hSb, hxC⟩ := hSw; obtain ⟨⟨iC0, iC1, iC2, iC3, iC4, iC5, iC6, iC7, iC8⟩, _, _⟩ := hxC; go_simp; try (with_reducible rfl))); (try simp only [Act.put, List.getElem_toArray, List.getElem_cons_succ, List.getElem_cons_zero, List.setIfInBounds_toArray, List.set_cons_zero, List.set_cons_succ])
        (refine wpAnyH_take (i := 5) (v := ?_) rfl (by kernel_rfl) (by kernel_rfl) (by kernel_rfl) (fun _ _ _ h => h) (Or.inl ⟨rfl, ?_⟩) (by assumption) ?_; rotate_left; focus (intro W hSw; (try dsimp only at hSw); obtain ⟨hSb, hxC⟩ := hSw; obtain ⟨⟨iC0, iC1, iC2, iC3, iC4, iC5, iC6, iC7, iC8⟩, _, _⟩ := hxC; go_simp; try (with_reducible rfl))); (try simp only [Act.put, List.getElem_toArray, List.getElem_cons_succ, List.getElem_cons_zero, List.setIfInBounds_toArray, List.set_cons_zero, List.set_cons_succ])
        (refine wpAnyH_take (i := 6) (v := ?_) rfl (by kernel_rfl) (by kernel_rfl) (by kernel_rfl) (fun _ _ _ h => h) (Or.inl ⟨rfl, ?_⟩) (by assumption) ?_; rotate_left; focus (intro W hSw; (try dsimp only at hSw); obtain ⟨hSb, hxC⟩ := hSw; obtain ⟨⟨iC0, iC1, iC2, iC3, iC4, iC5, iC6, iC7, iC8⟩, _, _⟩ := hxC; go_simp; try (with_reducible rfl))); (try simp only [Act.put, List.getElem_toArray, List.getElem_cons_succ, List.getElem_cons_zero, List.setIfInBounds_toArray, List.set_cons_zero, List.set_cons_succ])
        (refine wpAnyH_take (i := 7) (v := ?_) rfl (by kernel_rfl) (by kernel_rfl) (by kernel_rfl) (fun _ _ _ h => h) (Or.inl ⟨rfl, ?_⟩) (by assumption) ?_; rotate_left; focus (intro W hSw; (try dsimp only at hSw); obtain ⟨hSb, hxC⟩ := hSw; obtain ⟨⟨iC0, iC1, iC2, iC3, iC4, iC5, iC6, iC7, iC8⟩, _, _⟩ := hxC; go_simp; try (with_reducible rfl))); (try simp only [Act.put, List.getElem_toArray, List.getElem_cons_succ, List.getElem_cons_zero, List.setIfInBounds_toArray, List.set_cons_zero, List.set_cons_succ])
        (refine wpAnyH_take (i := 8) (v := ?_) rfl (by kernel_rfl) (by kernel_rfl) (by kernel_rfl) (fun _ _ _ h => h) (Or.inl ⟨rfl, ?_⟩) (by assumption) ?_; rotate_left; focus (intro W hSw; (try dsimp only at hSw); obtain ⟨hSb, hxC⟩ := hSw; obtain ⟨⟨iC0, iC1, iC2, iC3, iC4, iC5, iC6, iC7, iC8⟩, _, _⟩ := hxC; go_simp; try (with_reducible rfl))); (try simp only [Act.put, List.getElem_toArray, List.getElem_cons_succ, List.getElem_cons_zero, List.setIfInBounds_toArray, List.set_cons_zero, List.set_cons_succ])
        (refine wpAnyH_take (i := 9) (v := ?_) rfl (by kernel_rfl) (by kernel_rfl) (by kernel_rfl) (fun _ _ _ h => h) (Or.inl ⟨rfl, ?_⟩) (by assumption) ?_; rotate_left; focus (intro W hSw; (try dsimp only at hSw); obtain ⟨hSb, hxC⟩ := hSw; obtain ⟨⟨iC0, iC1, iC2, iC3, iC4, iC5, iC6, iC7, iC8⟩, _, _⟩ := hxC; go_simp; try (with_reducible rfl))); (try simp only [Act.put, List.getElem_toArray, List.getElem_cons_succ, List.getElem_cons_zero, List.setIfInBounds_toArray, List.set_cons_zero, List.set_cons_succ])
        (refine wpAnyH_take (i := 10) (v := ?_) rfl (by kernel_rfl) (by kernel_rfl) (by kernel_rfl) (fun _ _ _ h => h) (Or.inl ⟨rfl, ?_⟩) (by assumption) ?_; rotate_left; focus (intro W hSw; (try dsimp only at hSw); obtain ⟨hSb, hxC⟩ := hSw; obtain ⟨⟨iC0, iC1, iC2, iC3, iC4, iC5, iC6, iC7, iC8⟩, _, _⟩ := hxC; go_simp; try (with_reducible rfl))); (try simp only [Act.put, List.getElem_toArray, List.getElem_cons_succ, List.getElem_cons_zero, List.setIfInBounds_toArray, List.set_cons_zero, List.set_cons_succ])
        (refine wpAnyH_take (i := 11) (v := ?_) rfl (by kernel_rfl) (by kernel_rfl) (by kernel_rfl) (fun _ _ _ h => h) (Or.inl ⟨rfl, ?_⟩) (by assumption) ?_; rotate_left; focus (intro W hSw; (try dsimp only at hSw); obtain ⟨hSb, hxC⟩ := hSw; obtain ⟨⟨iC0, iC1, iC2, iC3, iC4, iC5, iC6, iC7, iC8⟩, _, _⟩ := hxC; go_simp; try (with_reducible rfl))); (try simp only [Act.put, List.getElem_toArray, List.getElem_cons_succ, List.getElem_cons_zero, List.setIfInBounds_toArray, List.set_cons_zero, List.set_cons_succ])
        (refine wpAnyH_take (i := 12) (v := ?_) rfl (by kernel_rfl) (by kernel_rfl) (by kernel_rfl) (fun _ _ _ h => h) (Or.inl ⟨rfl, ?_⟩) (by assumption) ?_; rotate_left; focus (intro W hSw; (try dsimp only at hSw); obtain ⟨hSb, hxC⟩ := hSw; obtain ⟨⟨iC0, iC1, iC2, iC3, iC4, iC5, iC6, iC7, iC8⟩, _, _⟩ := hxC; go_simp; try (with_reducible rfl))); (try simp only [Act.put, List.getElem_toArray, List.getElem_cons_succ, List.getElem_cons_zero, List.setIfInBounds_toArray, List.set_cons_zero, List.set_cons_succ])
        (refine wpAnyH_take (i := 14) (v := ?_) rfl (by kernel_rfl) (by kernel_rfl) (by kernel_rfl) (fun _ _ _ h => h) (Or.inl ⟨rfl, ?_⟩) (by assumption) ?_; rotate_left; focus (intro W hSw; (try dsimp only at hSw); obtain ⟨hSb, hxC⟩ := hSw; obtain ⟨⟨iC0, iC1, iC2, iC3, iC4, iC5, iC6, iC7, iC8⟩, _, _⟩ := hxC; go_simp; try (with_reducible rfl))); (try simp only [Act.put, List.getElem_toArray, List.getElem_cons_succ, List.getElem_cons_zero, List.setIfInBounds_toArray, List.set_cons_zero, List.set_cons_succ])
        refine wpAnyH_ready (rs := [13]) (by kernel_rfl) (by simp) ?_; refine AllReadyH.cons rfl (fun K hK => ?_) AllReadyH.nil
        go_simp; (go_at_call 50; refine (HC2.out _).mono ?_; rintro en ywr80x0 ⟨rfl, hb2⟩); have HO := Lib.hid (HO.out.below hb2); have HC := Lib.hid (HC.out.below hb2); refine hK.out _ _ ⟨below_after hb2 hHeld.1, HC.out⟩ (fun hHeld2 => ?_); clear hb2; (clear hHeld; rename _ => hHeld; clear hK K; have hHeld : (fun W => Below w.heap.size w W ∧ Bk9 W GC c0 c1 c2 c3 c4 c5 c6 c7 c8) _ := hHeld); (try simp only [Act.put, List.getElem_toArray, List.getElem_cons_succ, List.getElem_cons_zero, List.setIfInBounds_toArray, List.set_cons_zero, List.set_cons_succ])
        refine wpAnyH_ready (rs := [15]) (by kernel_rfl) (by simp) ?_; refine AllReadyH.cons rfl (fun K hK => ?_) AllReadyH.nil
        go_simp; (go_at_call 96; refine (HP2.out _).mono ?_; rintro en ywr80x1 ⟨rfl, hb2⟩); have HO := Lib.hid (HO.out.below hb2); have HC := Lib.hid (HC.out.below hb2); refine hK.out _ _ ⟨below_after hb2 hHeld.1, HC.out⟩ (fun hHeld2 => ?_); clear hb2; (clear hHeld; rename _ => hHeld; clear hK K; have hHeld : (fun W => Below w.heap.size w W ∧ Bk9 W GC c0 c1 c2 c3 c4 c5 c6 c7 c8) _ := hHeld); (try simp only [Act.put, List.getElem_toArray, List.getElem_cons_succ, List.getElem_cons_zero, List.setIfInBounds_toArray, List.set_cons_zero, List.set_cons_succ])
        (refine wpAnyH_take (i := 16) (v := ?_) rfl (by kernel_rfl) (by kernel_rfl) (by kernel_rfl) (fun _ _ _ h => h) (Or.inl ⟨rfl, ?_⟩) (by assumption) ?_; rotate_left; focus (intro W hSw; (try dsimp only at hSw); obtain ⟨hSb, hxC⟩ := hSw; obtain ⟨⟨iC0, iC1, iC2, iC3, iC4, iC5, iC6, iC7, iC8⟩, _, _⟩ := hxC; go_simp; try (with_reducible rfl))); (try simp only [Act.put, List.getElem_toArray, List.getElem_cons_succ, List.getElem_cons_zero, List.setIfInBounds_toArray, List.set_cons_zero, List.set_cons_succ])
        refine wpAnyH_ready (rs := [17]) (by kernel_rfl) (by simp) ?_; refine AllReadyH.cons rfl (fun K hK => ?_) AllReadyH.nil
        obtain ⟨⟨a0, a1, a2, a3, a4, a5, a6, a7, a8⟩, ⟨f0, f1, f2, f3, f4, f5, f6, f7, f8⟩, az⟩ := HO.out; go_simp; clear a0 f0 a1 f1 a2 f2 a3 f3 a4 f4 a5 f5 a6 f6 a7 f7 a8 f8 az
        have HC := Lib.hid (((HC.out.far ⟨GO, 6, none⟩ (.int .i64 V6) (by show GC ≠ GO; exact ne_C_O)).far ⟨GO, 7, none⟩ (.int .i64 V7) (by show GC ≠ GO; exact ne_C_O)).far ⟨GO, 8, none⟩ (.int .i64 V8) (by show GC ≠ GO; exact ne_C_O))
        have HO := Lib.hid (((HO.out.set6 V6).set7 V7).set8 V8)
        refine hK.out _ _ ⟨(Below.setCell (Below.setCell (Below.setCell hHeld.1 (p := ⟨GO, 6, none⟩) le_O _) (p := ⟨GO, 7, none⟩) le_O _) (p := ⟨GO, 8, none⟩) le_O _), HC.out⟩ (fun hHeld2 => ?_); (clear hHeld; rename _ => hHeld; clear hK K; have hHeld : (fun W => Below w.heap.size w W ∧ Bk9 W GC c0 c1 c2 c3 c4 c5 c6 c7 c8) _ := hHeld); (try simp only [Act.put, List.getElem_toArray, List.getElem_cons_succ, List.getElem_cons_zero, List.setIfInBounds_toArray, List.set_cons_zero, List.set_cons_succ])
        obtain ⟨ywr80x2, hwx⟩ : ∃ wx, ((ywr80x1.setCell ⟨GO, 6, none⟩ (.int .i64 V6)).setCell ⟨GO, 7, none⟩ (.int .i64 V7)).setCell ⟨GO, 8, none⟩ (.int .i64 V8) = wx := ⟨_, rfl⟩; rw [hwx] at HO HC hHeld ⊢; clear hwx
        refine wpAnyH_done (by kernel_rfl) ?_ _
        have HB := Lib.hid (hHeld.1)
        clear hHeld
        obtain ⟨⟨qO0, qO1, qO2, qO3, qO4, qO5, qO6, qO7, qO8⟩, ⟨fO0, fO1, fO2, fO3, fO4, fO5, fO6, fO7, fO8⟩, zO⟩ := HO.out
        obtain ⟨⟨qC0, qC1, qC2, qC3, qC4, qC5, qC6, qC7, qC8⟩, ⟨fC0, fC1, fC2, fC3, fC4, fC5, fC6, fC7, fC8⟩, zC⟩ := HC.out
        go_wp2_with fail
        clear qO0 fO0 qO1 fO1 qO2 fO2 qO3 fO3 qO4 fO4 qO5 fO5 qO6 fO6 qO7 fO7 qO8 fO8 zO qC0 fC0 qC1 fC1 qC2 fC2 qC3 fC3 qC4 fC4 qC5 fC5 qC6 fC6 qC7 fC7 qC8 fC8 zC
        go_roundw
        case rel => exact ⟨2 + 1, by first | rfl | go_num, by omega, HO.out, HC.out, HB.out⟩
        case measure => simp only [intOf]; omega
      · rw [show ((3 : Nat) : Int) = 3 from rfl]
        have HO : Hid (Bk9 wr GO V0 V1 V2 V3 V4 V5 V6 V7 V8) := HO0.out
        clear HO0
        obtain ⟨ne_O_C, ne_C_O, le_O⟩ := HNE.out
        obtain ⟨⟨qO0, qO1, qO2, qO3, qO4, qO5, qO6, qO7, qO8⟩, ⟨fO0, fO1, fO2, fO3, fO4, fO5, fO6, fO7, fO8⟩, zO⟩ := HO.out
        obtain ⟨⟨qC0, qC1, qC2, qC3, qC4, qC5, qC6, qC7, qC8⟩, ⟨fC0, fC1, fC2, fC3, fC4, fC5, fC6, fC7, fC8⟩, zC⟩ := HC.out
        go_wp2_with fail
        refine bodyPost_ret (v := .slice (some ⟨GO, 0, none⟩) 3 3) (by simp (maxDischargeDepth := 8) [results, Tryd.results62, go_sem, *]) rfl ?_
        have hb := HB.out
        have hle := le_O
        exact ⟨GO, rfl, by rw [HR0.out, HR1.out, HR2.out, HR3.out, HR4.out, HR5.out, HR6.out, HR7.out, HR8.out]; exact HO.out, by omega, by (repeat' (first | (with_reducible exact Below.refl _ _) | (with_reducible refine Below.alloc ?_ ?_ _) | (with_reducible refine Below.setCell ?_ ?_ _) | (with_reducible refine Below.drew ?_) | (with_reducible refine below_drewN ?_ _) | (with_reducible assumption) | (with_reducible refine below_after (by with_reducible assumption) ?_) | go_size))⟩
set_option maxHeartbeats 3200000 in
theorem isInside_any (n0 n1 n2 n3 n4 n5 n6 n7 n8 a0 a1 a2 : Int) (GN cap : Nat) (w : World) (hN : Bk9 w GN n0 n1 n2 n3 n4 n5 n6 n7 n8) (k0 : W3 1000000 n0 n1 n2) (k1 : W3 1000000 n3 n4 n5) (k2 : W3 1000000 n6 n7 n8) (ka : W3 100000000000 a0 a1 a2) :
    Calls Tryd.prog 67 #[.slice (some ⟨GN, 0, none⟩) 3 cap, .agg #[.int .i64 a0, .int .i64 a1, .int .i64 a2]] w fun e w' => e = .returned (.bool (inV (dotV n0 n1 n2 a0 a1 a2) (dotV n3 n4 n5 a0 a1 a2) (dotV n6 n7 n8 a0 a1 a2))) ∧ Below w.heap.size w w' := by
  have HN0 := Lib.hid hN
  have HP0 : Hid (∀ w, Calls Tryd.prog 63 #[.agg #[.int .i64 n0, .int .i64 n1, .int .i64 n2], .agg #[.int .i64 a0, .int .i64 a1, .int .i64 a2]] w fun e w' => e = .returned (.int .i64 (dotV n0 n1 n2 a0 a1 a2)) ∧ Below w.heap.size w w') := fun w => productOf_any n0 n1 n2 a0 a1 a2 w k0 ka
  have HP1 : Hid (∀ w, Calls Tryd.prog 63 #[.agg #[.int .i64 n3, .int .i64 n4, .int .i64 n5], .agg #[.int .i64 a0, .int .i64 a1, .int .i64 a2]] w fun e w' => e = .returned (.int .i64 (dotV n3 n4 n5 a0 a1 a2)) ∧ Below w.heap.size w w') := fun w => productOf_any n3 n4 n5 a0 a1 a2 w k1 ka
  have HP2 : Hid (∀ w, Calls Tryd.prog 63 #[.agg #[.int .i64 n6, .int .i64 n7, .int .i64 n8], .agg #[.int .i64 a0, .int .i64 a1, .int .i64 a2]] w fun e w' => e = .returned (.int .i64 (dotV n6 n7 n8 a0 a1 a2)) ∧ Below w.heap.size w w') := fun w => productOf_any n6 n7 n8 a0 a1 a2 w k2 ka
  clear hN k0 k1 k2 ka
  generalize dotV n0 n1 n2 a0 a1 a2 = P0 at *
  generalize dotV n3 n4 n5 a0 a1 a2 = P1 at *
  generalize dotV n6 n7 n8 a0 a1 a2 = P2 at *
  by_cases h0 : P0 < 0
  · have HV : Hid (inV P0 P1 P2 = false) := by show _ = _; simp [inV]; omega
    obtain ⟨GA, hG⟩ : ∃ G, w.heap.size = G := ⟨_, rfl⟩
    have HG := Lib.hid hG
    go_enter Tryd.func67, Tryd.ntmps67
    go_upto_region 1 with fail
    obtain ⟨w0, hw0⟩ : ∃ w0, w0 = (w.alloc (.cells #[.int .i64 a0, .int .i64 a1, .int .i64 a2] 26)) := ⟨_, rfl⟩
    rw [← hw0]
    have HA : Hid (Bk3 w0 GA a0 a1 a2) := by
      have h := (bk3_new w a0 a1 a2 26).below (W' := (w.alloc (.cells #[.int .i64 a0, .int .i64 a1, .int .i64 a2] 26))) (by (repeat' (first | (with_reducible exact Below.refl _ _) | (with_reducible refine Below.alloc ?_ ?_ _) | (with_reducible refine Below.setCell ?_ ?_ _) | (with_reducible refine Below.drew ?_) | (with_reducible refine below_drewN ?_ _) | (with_reducible assumption) | (with_reducible refine below_after (by with_reducible assumption) ?_) | go_size)))
      (try simp only [World.size_alloc] at h)
      rw [hG] at h
      rw [hw0]; exact h
    have HB : Hid (Below w.heap.size w w0) := by show Below w.heap.size w w0; rw [hw0]; (repeat' (first | (with_reducible exact Below.refl _ _) | (with_reducible refine Below.alloc ?_ ?_ _) | (with_reducible refine Below.setCell ?_ ?_ _) | (with_reducible refine Below.drew ?_) | (with_reducible refine below_drewN ?_ _) | (with_reducible assumption) | (with_reducible refine below_after (by with_reducible assumption) ?_) | go_size))
    clear hw0
    have le_A : w.heap.size ≤ GA := by omega
    have HN := Lib.hid (HN0.out.below HB.out)
    obtain ⟨⟨qA0, qA1, qA2⟩, ⟨fA0, fA1, fA2⟩, zA⟩ := HA.out
    obtain ⟨⟨qN0, qN1, qN2, qN3, qN4, qN5, qN6, qN7, qN8⟩, ⟨fN0, fN1, fN2, fN3, fN4, fN5, fN6, fN7, fN8⟩, zN⟩ := HN.out
    go_wp2_with fail
    refine wp_loop_rounds 4 ?_
    clear qA0 fA0 qA1 fA1 qA2 fA2 zA qN0 fN0 qN1 fN1 qN2 fN2 qN3 fN3 qN4 fN4 qN5 fN5 qN6 fN6 qN7 fN7 qN8 fN8 zN
    rw [rounds_succ]
    obtain ⟨⟨qA0, qA1, qA2⟩, ⟨fA0, fA1, fA2⟩, zA⟩ := HA.out
    obtain ⟨⟨qN0, qN1, qN2, qN3, qN4, qN5, qN6, qN7, qN8⟩, ⟨fN0, fN1, fN2, fN3, fN4, fN5, fN6, fN7, fN8⟩, zN⟩ := HN.out
    go_upto_region 4 with fail
    obtain ⟨GE0, hGE0⟩ : ∃ g, w0.heap.size = g := ⟨_, rfl⟩
    obtain ⟨w1, hw1⟩ : ∃ wx, wx = w0.alloc (.cells #[.int .i64 n0, .int .i64 n1, .int .i64 n2] 26) := ⟨_, rfl⟩
    rw [← hw1, hGE0]
    have HE0 : Hid (Bk3 w1 GE0 n0 n1 n2) := by rw [hw1, ← hGE0]; exact bk3_new w0 n0 n1 n2 _
    have le_E0 : w.heap.size ≤ GE0 := by rw [← hGE0]; exact HB.out.size
    have ne_E0_A : GE0 ≠ GA := by have := HA.out.2.2; omega
    have ne_A_E0 : GA ≠ GE0 := Ne.symm ne_E0_A
    have ne_E0_N : GE0 ≠ GN := by have := HN.out.2.2; omega
    have ne_N_E0 : GN ≠ GE0 := Ne.symm ne_E0_N
    clear qA0 fA0 qA1 fA1 qA2 fA2 zA qN0 fN0 qN1 fN1 qN2 fN2 qN3 fN3 qN4 fN4 qN5 fN5 qN6 fN6 qN7 fN7 qN8 fN8 zN
    have HA := Lib.hid (HA.out.below ((Below.refl _ _).alloc (Nat.le_refl _) (.cells #[.int .i64 n0, .int .i64 n1, .int .i64 n2] 26)))
    have HN := Lib.hid (HN.out.below ((Below.refl _ _).alloc (Nat.le_refl _) (.cells #[.int .i64 n0, .int .i64 n1, .int .i64 n2] 26)))
    have HB := Lib.hid (Below.alloc HB.out HB.out.size (.cells #[.int .i64 n0, .int .i64 n1, .int .i64 n2] 26))
    rw [← hw1] at HA HN HB
    clear hw1 hGE0
    obtain ⟨⟨qA0, qA1, qA2⟩, ⟨fA0, fA1, fA2⟩, zA⟩ := HA.out
    obtain ⟨⟨qN0, qN1, qN2, qN3, qN4, qN5, qN6, qN7, qN8⟩, ⟨fN0, fN1, fN2, fN3, fN4, fN5, fN6, fN7, fN8⟩, zN⟩ := HN.out
    obtain ⟨⟨qE00, qE01, qE02⟩, ⟨fE00, fE01, fE02⟩, zE0⟩ := HE0.out
    go_wp2_with fail
    go_at_call 63
    refine (HP0.out _).mono ?_
    rintro e w2 ⟨rfl, hb⟩
    clear qA0 fA0 qA1 fA1 qA2 fA2 zA qN0 fN0 qN1 fN1 qN2 fN2 qN3 fN3 qN4 fN4 qN5 fN5 qN6 fN6 qN7 fN7 qN8 fN8 zN qE00 fE00 qE01 fE01 qE02 fE02 zE0
    have HA := Lib.hid (HA.out.below hb)
    have HN := Lib.hid (HN.out.below hb)
    have HE0 := Lib.hid (HE0.out.below hb)
    have HB := Lib.hid (below_after hb HB.out)
    clear hb
    obtain ⟨⟨qA0, qA1, qA2⟩, ⟨fA0, fA1, fA2⟩, zA⟩ := HA.out
    obtain ⟨⟨qN0, qN1, qN2, qN3, qN4, qN5, qN6, qN7, qN8⟩, ⟨fN0, fN1, fN2, fN3, fN4, fN5, fN6, fN7, fN8⟩, zN⟩ := HN.out
    obtain ⟨⟨qE00, qE01, qE02⟩, ⟨fE00, fE01, fE02⟩, zE0⟩ := HE0.out
    go_wp2_with fail
    refine bodyPost_ret (v := .bool false) (by simp (maxDischargeDepth := 8) [results, Tryd.results67, go_sem, *]) rfl ?_
    have hb := HB.out
    exact ⟨by rw [HV.out], by (repeat' (first | (with_reducible exact Below.refl _ _) | (with_reducible refine Below.alloc ?_ ?_ _) | (with_reducible refine Below.setCell ?_ ?_ _) | (with_reducible refine Below.drew ?_) | (with_reducible refine below_drewN ?_ _) | (with_reducible assumption) | (with_reducible refine below_after (by with_reducible assumption) ?_) | go_size))⟩
  · skip
    by_cases h1 : P1 < 0
    · have HV : Hid (inV P0 P1 P2 = false) := by show _ = _; simp [inV]; omega
      obtain ⟨GA, hG⟩ : ∃ G, w.heap.size = G := ⟨_, rfl⟩
      have HG := Lib.hid hG
      go_enter Tryd.func67, Tryd.ntmps67
      go_upto_region 1 with fail
      obtain ⟨w0, hw0⟩ : ∃ w0, w0 = (w.alloc (.cells #[.int .i64 a0, .int .i64 a1, .int .i64 a2] 26)) := ⟨_, rfl⟩
      rw [← hw0]
      have HA : Hid (Bk3 w0 GA a0 a1 a2) := by
        have h := (bk3_new w a0 a1 a2 26).below (W' := (w.alloc (.cells #[.int .i64 a0, .int .i64 a1, .int .i64 a2] 26))) (by (repeat' (first | (with_reducible exact Below.refl _ _) | (with_reducible refine Below.alloc ?_ ?_ _) | (with_reducible refine Below.setCell ?_ ?_ _) | (with_reducible refine Below.drew ?_) | (with_reducible refine below_drewN ?_ _) | (with_reducible assumption) | (with_reducible refine below_after (by with_reducible assumption) ?_) | go_size)))
        (try simp only [World.size_alloc] at h)
        rw [hG] at h
        rw [hw0]; exact h
      have HB : Hid (Below w.heap.size w w0) := by show Below w.heap.size w w0; rw [hw0]; (repeat' (first | (with_reducible exact Below.refl _ _) | (with_reducible refine Below.alloc ?_ ?_ _) | (with_reducible refine Below.setCell ?_ ?_ _) | (with_reducible refine Below.drew ?_) | (with_reducible refine below_drewN ?_ _) | (with_reducible assumption) | (with_reducible refine below_after (by with_reducible assumption) ?_) | go_size))
      clear hw0
      have le_A : w.heap.size ≤ GA := by omega
      have HN := Lib.hid (HN0.out.below HB.out)
      obtain ⟨⟨qA0, qA1, qA2⟩, ⟨fA0, fA1, fA2⟩, zA⟩ := HA.out
      obtain ⟨⟨qN0, qN1, qN2, qN3, qN4, qN5, qN6, qN7, qN8⟩, ⟨fN0, fN1, fN2, fN3, fN4, fN5, fN6, fN7, fN8⟩, zN⟩ := HN.out
      go_wp2_with fail
      refine wp_loop_rounds 4 ?_
      clear qA0 fA0 qA1 fA1 qA2 fA2 zA qN0 fN0 qN1 fN1 qN2 fN2 qN3 fN3 qN4 fN4 qN5 fN5 qN6 fN6 qN7 fN7 qN8 fN8 zN
      rw [rounds_succ]
      obtain ⟨⟨qA0, qA1, qA2⟩, ⟨fA0, fA1, fA2⟩, zA⟩ := HA.out
      obtain ⟨⟨qN0, qN1, qN2, qN3, qN4, qN5, qN6, qN7, qN8⟩, ⟨fN0, fN1, fN2, fN3, fN4, fN5, fN6, fN7, fN8⟩, zN⟩ := HN.out
      go_upto_region 4 with fail
      obtain ⟨GE0, hGE0⟩ : ∃ g, w0.heap.size = g := ⟨_, rfl⟩
      obtain ⟨w1, hw1⟩ : ∃ wx, wx = w0.alloc (.cells #[.int .i64 n0, .int .i64 n1, .int .i64 n2] 26) := ⟨_, rfl⟩
      rw [← hw1, hGE0]
      have HE0 : Hid (Bk3 w1 GE0 n0 n1 n2) := by rw [hw1, ← hGE0]; exact bk3_new w0 n0 n1 n2 _
      have le_E0 : w.heap.size ≤ GE0 := by rw [← hGE0]; exact HB.out.size
      have ne_E0_A : GE0 ≠ GA := by have := HA.out.2.2; omega
      have ne_A_E0 : GA ≠ GE0 := Ne.symm ne_E0_A
      have ne_E0_N : GE0 ≠ GN := by have := HN.out.2.2; omega
      have ne_N_E0 : GN ≠ GE0 := Ne.symm ne_E0_N
      clear qA0 fA0 qA1 fA1 qA2 fA2 zA qN0 fN0 qN1 fN1 qN2 fN2 qN3 fN3 qN4 fN4 qN5 fN5 qN6 fN6 qN7 fN7 qN8 fN8 zN
      have HA := Lib.hid (HA.out.below ((Below.refl _ _).alloc (Nat.le_refl _) (.cells #[.int .i64 n0, .int .i64 n1, .int .i64 n2] 26)))
      have HN := Lib.hid (HN.out.below ((Below.refl _ _).alloc (Nat.le_refl _) (.cells #[.int .i64 n0, .int .i64 n1, .int .i64 n2] 26)))
      have HB := Lib.hid (Below.alloc HB.out HB.out.size (.cells #[.int .i64 n0, .int .i64 n1, .int .i64 n2] 26))
      rw [← hw1] at HA HN HB
      clear hw1 hGE0
      obtain ⟨⟨qA0, qA1, qA2⟩, ⟨fA0, fA1, fA2⟩, zA⟩ := HA.out
      obtain ⟨⟨qN0, qN1, qN2, qN3, qN4, qN5, qN6, qN7, qN8⟩, ⟨fN0, fN1, fN2, fN3, fN4, fN5, fN6, fN7, fN8⟩, zN⟩ := HN.out
      obtain ⟨⟨qE00, qE01, qE02⟩, ⟨fE00, fE01, fE02⟩, zE0⟩ := HE0.out
      go_wp2_with fail
      go_at_call 63
      refine (HP0.out _).mono ?_
      rintro e w2 ⟨rfl, hb⟩
      clear qA0 fA0 qA1 fA1 qA2 fA2 zA qN0 fN0 qN1 fN1 qN2 fN2 qN3 fN3 qN4 fN4 qN5 fN5 qN6 fN6 qN7 fN7 qN8 fN8 zN qE00 fE00 qE01 fE01 qE02 fE02 zE0
      have HA := Lib.hid (HA.out.below hb)
      have HN := Lib.hid (HN.out.below hb)
      have HE0 := Lib.hid (HE0.out.below hb)
      have HB := Lib.hid (below_after hb HB.out)
      clear hb
      obtain ⟨⟨qA0, qA1, qA2⟩, ⟨fA0, fA1, fA2⟩, zA⟩ := HA.out
      obtain ⟨⟨qN0, qN1, qN2, qN3, qN4, qN5, qN6, qN7, qN8⟩, ⟨fN0, fN1, fN2, fN3, fN4, fN5, fN6, fN7, fN8⟩, zN⟩ := HN.out
      obtain ⟨⟨qE00, qE01, qE02⟩, ⟨fE00, fE01, fE02⟩, zE0⟩ := HE0.out
      go_wp2_with fail
      clear qA0 fA0 qA1 fA1 qA2 fA2 zA qN0 fN0 qN1 fN1 qN2 fN2 qN3 fN3 qN4 fN4 qN5 fN5 qN6 fN6 qN7 fN7 qN8 fN8 zN qE00 fE00 qE01 fE01 qE02 fE02 zE0
      clear HE0
      rw [rounds_succ]
      obtain ⟨⟨qA0, qA1, qA2⟩, ⟨fA0, fA1, fA2⟩, zA⟩ := HA.out
      obtain ⟨⟨qN0, qN1, qN2, qN3, qN4, qN5, qN6, qN7, qN8⟩, ⟨fN0, fN1, fN2, fN3, fN4, fN5, fN6, fN7, fN8⟩, zN⟩ := HN.out
      go_upto_region 4 with fail
      obtain ⟨GE1, hGE1⟩ : ∃ g, w2.heap.size = g := ⟨_, rfl⟩
      obtain ⟨w3, hw3⟩ : ∃ wx, wx = w2.alloc (.cells #[.int .i64 n3, .int .i64 n4, .int .i64 n5] 26) := ⟨_, rfl⟩
      rw [← hw3, hGE1]
      have HE1 : Hid (Bk3 w3 GE1 n3 n4 n5) := by rw [hw3, ← hGE1]; exact bk3_new w2 n3 n4 n5 _
      have le_E1 : w.heap.size ≤ GE1 := by rw [← hGE1]; exact HB.out.size
      have ne_E1_A : GE1 ≠ GA := by have := HA.out.2.2; omega
      have ne_A_E1 : GA ≠ GE1 := Ne.symm ne_E1_A
      have ne_E1_N : GE1 ≠ GN := by have := HN.out.2.2; omega
      have ne_N_E1 : GN ≠ GE1 := Ne.symm ne_E1_N
      clear qA0 fA0 qA1 fA1 qA2 fA2 zA qN0 fN0 qN1 fN1 qN2 fN2 qN3 fN3 qN4 fN4 qN5 fN5 qN6 fN6 qN7 fN7 qN8 fN8 zN
      have HA := Lib.hid (HA.out.below ((Below.refl _ _).alloc (Nat.le_refl _) (.cells #[.int .i64 n3, .int .i64 n4, .int .i64 n5] 26)))
      have HN := Lib.hid (HN.out.below ((Below.refl _ _).alloc (Nat.le_refl _) (.cells #[.int .i64 n3, .int .i64 n4, .int .i64 n5] 26)))
      have HB := Lib.hid (Below.alloc HB.out HB.out.size (.cells #[.int .i64 n3, .int .i64 n4, .int .i64 n5] 26))
      rw [← hw3] at HA HN HB
      clear hw3 hGE1
      obtain ⟨⟨qA0, qA1, qA2⟩, ⟨fA0, fA1, fA2⟩, zA⟩ := HA.out
      obtain ⟨⟨qN0, qN1, qN2, qN3, qN4, qN5, qN6, qN7, qN8⟩, ⟨fN0, fN1, fN2, fN3, fN4, fN5, fN6, fN7, fN8⟩, zN⟩ := HN.out
      obtain ⟨⟨qE10, qE11, qE12⟩, ⟨fE10, fE11, fE12⟩, zE1⟩ := HE1.out
      go_wp2_with fail
      go_at_call 63
      refine (HP1.out _).mono ?_
      rintro e w4 ⟨rfl, hb⟩
      clear qA0 fA0 qA1 fA1 qA2 fA2 zA qN0 fN0 qN1 fN1 qN2 fN2 qN3 fN3 qN4 fN4 qN5 fN5 qN6 fN6 qN7 fN7 qN8 fN8 zN qE10 fE10 qE11 fE11 qE12 fE12 zE1
      have HA := Lib.hid (HA.out.below hb)
      have HN := Lib.hid (HN.out.below hb)
      have HE1 := Lib.hid (HE1.out.below hb)
      have HB := Lib.hid (below_after hb HB.out)
      clear hb
      obtain ⟨⟨qA0, qA1, qA2⟩, ⟨fA0, fA1, fA2⟩, zA⟩ := HA.out
      obtain ⟨⟨qN0, qN1, qN2, qN3, qN4, qN5, qN6, qN7, qN8⟩, ⟨fN0, fN1, fN2, fN3, fN4, fN5, fN6, fN7, fN8⟩, zN⟩ := HN.out
      obtain ⟨⟨qE10, qE11, qE12⟩, ⟨fE10, fE11, fE12⟩, zE1⟩ := HE1.out
      go_wp2_with fail
      refine bodyPost_ret (v := .bool false) (by simp (maxDischargeDepth := 8) [results, Tryd.results67, go_sem, *]) rfl ?_
      have hb := HB.out
      exact ⟨by rw [HV.out], by (repeat' (first | (with_reducible exact Below.refl _ _) | (with_reducible refine Below.alloc ?_ ?_ _) | (with_reducible refine Below.setCell ?_ ?_ _) | (with_reducible refine Below.drew ?_) | (with_reducible refine below_drewN ?_ _) | (with_reducible assumption) | (with_reducible refine below_after (by with_reducible assumption) ?_) | go_size))⟩
    · skip
      by_cases h2 : P2 < 0
      · have HV : Hid (inV P0 P1 P2 = false) := by show _ = _; simp [inV]; omega
        obtain ⟨GA, hG⟩ : ∃ G, w.heap.size = G := ⟨_, rfl⟩
        have HG := Lib.hid hG
        go_enter Tryd.func67, Tryd.ntmps67
        go_upto_region 1 with fail
        obtain ⟨w0, hw0⟩ : ∃ w0, w0 = (w.alloc (.cells #[.int .i64 a0, .int .i64 a1, .int .i64 a2] 26)) := ⟨_, rfl⟩
        rw [← hw0]
        have HA : Hid (Bk3 w0 GA a0 a1 a2) := by
          have h := (bk3_new w a0 a1 a2 26).below (W' := (w.alloc (.cells #[.int .i64 a0, .int .i64 a1, .int .i64 a2] 26))) (by (repeat' (first | (with_reducible exact Below.refl _ _) | (with_reducible refine Below.alloc ?_ ?_ _) | (with_reducible refine Below.setCell ?_ ?_ _) | (with_reducible refine Below.drew ?_) | (with_reducible refine below_drewN ?_ _) | (with_reducible assumption) | (with_reducible refine below_after (by with_reducible assumption) ?_) | go_size)))
          (try simp only [World.size_alloc] at h)
          rw [hG] at h
          rw [hw0]; exact h
        have HB : Hid (Below w.heap.size w w0) := by show Below w.heap.size w w0; rw [hw0]; (repeat' (first | (with_reducible exact Below.refl _ _) | (with_reducible refine Below.alloc ?_ ?_ _) | (with_reducible refine Below.setCell ?_ ?_ _) | (with_reducible refine Below.drew ?_) | (with_reducible refine below_drewN ?_ _) | (with_reducible assumption) | (with_reducible refine below_after (by with_reducible assumption) ?_) | go_size))
        clear hw0
        have le_A : w.heap.size ≤ GA := by omega
        have HN := Lib.hid (HN0.out.below HB.out)
        obtain ⟨⟨qA0, qA1, qA2⟩, ⟨fA0, fA1, fA2⟩, zA⟩ := HA.out
        obtain ⟨⟨qN0, qN1, qN2, qN3, qN4, qN5, qN6, qN7, qN8⟩, ⟨fN0, fN1, fN2, fN3, fN4, fN5, fN6, fN7, fN8⟩, zN⟩ := HN.out
        go_wp2_with fail
        refine wp_loop_rounds 4 ?_
        clear qA0 fA0 qA1 fA1 qA2 fA2 zA qN0 fN0 qN1 fN1 qN2 fN2 qN3 fN3 qN4 fN4 qN5 fN5 qN6 fN6 qN7 fN7 qN8 fN8 zN
        rw [rounds_succ]
        obtain ⟨⟨qA0, qA1, qA2⟩, ⟨fA0, fA1, fA2⟩, zA⟩ := HA.out
        obtain ⟨⟨qN0, qN1, qN2, qN3, qN4, qN5, qN6, qN7, qN8⟩, ⟨fN0, fN1, fN2, fN3, fN4, fN5, fN6, fN7, fN8⟩, zN⟩ := HN.out
        go_upto_region 4 with fail
        obtain ⟨GE0, hGE0⟩ : ∃ g, w0.heap.size = g := ⟨_, rfl⟩
        obtain ⟨w1, hw1⟩ : ∃ wx, wx = w0.alloc (.cells #[.int .i64 n0, .int .i64 n1, .int .i64 n2] 26) := ⟨_, rfl⟩
        rw [← hw1, hGE0]
        have HE0 : Hid (Bk3 w1 GE0 n0 n1 n2) := by rw [hw1, ← hGE0]; exact bk3_new w0 n0 n1 n2 _
        have le_E0 : w.heap.size ≤ GE0 := by rw [← hGE0]; exact HB.out.size
        have ne_E0_A : GE0 ≠ GA := by have := HA.out.2.2; omega
        have ne_A_E0 : GA ≠ GE0 := Ne.symm ne_E0_A
        have ne_E0_N : GE0 ≠ GN := by have := HN.out.2.2; omega
        have ne_N_E0 : GN ≠ GE0 := Ne.symm ne_E0_N
        clear qA0 fA0 qA1 fA1 qA2 fA2 zA qN0 fN0 qN1 fN1 qN2 fN2 qN3 fN3 qN4 fN4 qN5 fN5 qN6 fN6 qN7 fN7 qN8 fN8 zN
        have HA := Lib.hid (HA.out.below ((Below.refl _ _).alloc (Nat.le_refl _) (.cells #[.int .i64 n0, .int .i64 n1, .int .i64 n2] 26)))
        have HN := Lib.hid (HN.out.below ((Below.refl _ _).alloc (Nat.le_refl _) (.cells #[.int .i64 n0, .int .i64 n1, .int .i64 n2] 26)))
        have HB := Lib.hid (Below.alloc HB.out HB.out.size (.cells #[.int .i64 n0, .int .i64 n1, .int .i64 n2] 26))
        rw [← hw1] at HA HN HB
        clear hw1 hGE0
        obtain ⟨⟨qA0, qA1, qA2⟩, ⟨fA0, fA1, fA2⟩, zA⟩ := HA.out
        obtain ⟨⟨qN0, qN1, qN2, qN3, qN4, qN5, qN6, qN7, qN8⟩, ⟨fN0, fN1, fN2, fN3, fN4, fN5, fN6, fN7, fN8⟩, zN⟩ := HN.out
        obtain ⟨⟨qE00, qE01, qE02⟩, ⟨fE00, fE01, fE02⟩, zE0⟩ := HE0.out
        go_wp2_with fail
        go_at_call 63
        refine (HP0.out _).mono ?_
        rintro e w2 ⟨rfl, hb⟩
        clear qA0 fA0 qA1 fA1 qA2 fA2 zA qN0 fN0 qN1 fN1 qN2 fN2 qN3 fN3 qN4 fN4 qN5 fN5 qN6 fN6 qN7 fN7 qN8 fN8 zN qE00 fE00 qE01 fE01 qE02 fE02 zE0
        have HA := Lib.hid (HA.out.below hb)
        have HN := Lib.hid (HN.out.below hb)
        have HE0 := Lib.hid (HE0.out.below hb)
        have HB := Lib.hid (below_after hb HB.out)
        clear hb
        obtain ⟨⟨qA0, qA1, qA2⟩, ⟨fA0, fA1, fA2⟩, zA⟩ := HA.out
        obtain ⟨⟨qN0, qN1, qN2, qN3, qN4, qN5, qN6, qN7, qN8⟩, ⟨fN0, fN1, fN2, fN3, fN4, fN5, fN6, fN7, fN8⟩, zN⟩ := HN.out
        obtain ⟨⟨qE00, qE01, qE02⟩, ⟨fE00, fE01, fE02⟩, zE0⟩ := HE0.out
        go_wp2_with fail
        clear qA0 fA0 qA1 fA1 qA2 fA2 zA qN0 fN0 qN1 fN1 qN2 fN2 qN3 fN3 qN4 fN4 qN5 fN5 qN6 fN6 qN7 fN7 qN8 fN8 zN qE00 fE00 qE01 fE01 qE02 fE02 zE0
        clear HE0
        rw [rounds_succ]
        obtain ⟨⟨qA0, qA1, qA2⟩, ⟨fA0, fA1, fA2⟩, zA⟩ := HA.out
        obtain ⟨⟨qN0, qN1, qN2, qN3, qN4, qN5, qN6, qN7, qN8⟩, ⟨fN0, fN1, fN2, fN3, fN4, fN5, fN6, fN7, fN8⟩, zN⟩ := HN.out
        go_upto_region 4 with fail
        obtain ⟨GE1, hGE1⟩ : ∃ g, w2.heap.size = g := ⟨_, rfl⟩
        obtain ⟨w3, hw3⟩ : ∃ wx, wx = w2.alloc (.cells #[.int .i64 n3, .int .i64 n4, .int .i64 n5] 26) := ⟨_, rfl⟩
        rw [← hw3, hGE1]
        have HE1 : Hid (Bk3 w3 GE1 n3 n4 n5) := by rw [hw3, ← hGE1]; exact bk3_new w2 n3 n4 n5 _
        have le_E1 : w.heap.size ≤ GE1 := by rw [← hGE1]; exact HB.out.size
        have ne_E1_A : GE1 ≠ GA := by have := HA.out.2.2; omega
        have ne_A_E1 : GA ≠ GE1 := Ne.symm ne_E1_A
        have ne_E1_N : GE1 ≠ GN := by have := HN.out.2.2; omega
        have ne_N_E1 : GN ≠ GE1 := Ne.symm ne_E1_N
        clear qA0 fA0 qA1 fA1 qA2 fA2 zA qN0 fN0 qN1 fN1 qN2 fN2 qN3 fN3 qN4 fN4 qN5 fN5 qN6 fN6 qN7 fN7 qN8 fN8 zN
        have HA := Lib.hid (HA.out.below ((Below.refl _ _).alloc (Nat.le_refl _) (.cells #[.int .i64 n3, .int .i64 n4, .int .i64 n5] 26)))
        have HN := Lib.hid (HN.out.below ((Below.refl _ _).alloc (Nat.le_refl _) (.cells #[.int .i64 n3, .int .i64 n4, .int .i64 n5] 26)))
        have HB := Lib.hid (Below.alloc HB.out HB.out.size (.cells #[.int .i64 n3, .int .i64 n4, .int .i64 n5] 26))
        rw [← hw3] at HA HN HB
        clear hw3 hGE1
        obtain ⟨⟨qA0, qA1, qA2⟩, ⟨fA0, fA1, fA2⟩, zA⟩ := HA.out
        obtain ⟨⟨qN0, qN1, qN2, qN3, qN4, qN5, qN6, qN7, qN8⟩, ⟨fN0, fN1, fN2, fN3, fN4, fN5, fN6, fN7, fN8⟩, zN⟩ := HN.out
        obtain ⟨⟨qE10, qE11, qE12⟩, ⟨fE10, fE11, fE12⟩, zE1⟩ := HE1.out
        go_wp2_with fail
        go_at_call 63
        refine (HP1.out _).mono ?_
        rintro e w4 ⟨rfl, hb⟩
        clear qA0 fA0 qA1 fA1 qA2 fA2 zA qN0 fN0 qN1 fN1 qN2 fN2 qN3 fN3 qN4 fN4 qN5 fN5 qN6 fN6 qN7 fN7 qN8 fN8 zN qE10 fE10 qE11 fE11 qE12 fE12 zE1
        have HA := Lib.hid (HA.out.below hb)
        have HN := Lib.hid (HN.out.below hb)
        have HE1 := Lib.hid (HE1.out.below hb)
        have HB := Lib.hid (below_after hb HB.out)
        clear hb
        obtain ⟨⟨qA0, qA1, qA2⟩, ⟨fA0, fA1, fA2⟩, zA⟩ := HA.out
        obtain ⟨⟨qN0, qN1, qN2, qN3, qN4, qN5, qN6, qN7, qN8⟩, ⟨fN0, fN1, fN2, fN3, fN4, fN5, fN6, fN7, fN8⟩, zN⟩ := HN.out
        obtain ⟨⟨qE10, qE11, qE12⟩, ⟨fE10, fE11, fE12⟩, zE1⟩ := HE1.out
        go_wp2_with fail
        clear qA0 fA0 qA1 fA1 qA2 fA2 zA qN0 fN0 qN1 fN1 qN2 fN2 qN3 fN3 qN4 fN4 qN5 fN5 qN6 fN6 qN7 fN7 qN8 fN8 zN qE10 fE10 qE11 fE11 qE12 fE12 zE1
        clear HE1
        rw [rounds_succ]
        obtain ⟨⟨qA0, qA1, qA2⟩, ⟨fA0, fA1, fA2⟩, zA⟩ := HA.out
        obtain ⟨⟨qN0, qN1, qN2, qN3, qN4, qN5, qN6, qN7, qN8⟩, ⟨fN0, fN1, fN2, fN3, fN4, fN5, fN6, fN7, fN8⟩, zN⟩ := HN.out
        go_upto_region 4 with fail
        obtain ⟨GE2, hGE2⟩ : ∃ g, w4.heap.size = g := ⟨_, rfl⟩
        obtain ⟨w5, hw5⟩ : ∃ wx, wx = w4.alloc (.cells #[.int .i64 n6, .int .i64 n7, .int .i64 n8] 26) := ⟨_, rfl⟩
        rw [← hw5, hGE2]
        have HE2 : Hid (Bk3 w5 GE2 n6 n7 n8) := by rw [hw5, ← hGE2]; exact bk3_new w4 n6 n7 n8 _
        have le_E2 : w.heap.size ≤ GE2 := by rw [← hGE2]; exact HB.out.size
        have ne_E2_A : GE2 ≠ GA := by have := HA.out.2.2; omega
        have ne_A_E2 : GA ≠ GE2 := Ne.symm ne_E2_A
        have ne_E2_N : GE2 ≠ GN := by have := HN.out.2.2; omega
        have ne_N_E2 : GN ≠ GE2 := Ne.symm ne_E2_N
        clear qA0 fA0 qA1 fA1 qA2 fA2 zA qN0 fN0 qN1 fN1 qN2 fN2 qN3 fN3 qN4 fN4 qN5 fN5 qN6 fN6 qN7 fN7 qN8 fN8 zN
        have HA := Lib.hid (HA.out.below ((Below.refl _ _).alloc (Nat.le_refl _) (.cells #[.int .i64 n6, .int .i64 n7, .int .i64 n8] 26)))
        have HN := Lib.hid (HN.out.below ((Below.refl _ _).alloc (Nat.le_refl _) (.cells #[.int .i64 n6, .int .i64 n7, .int .i64 n8] 26)))
        have HB := Lib.hid (Below.alloc HB.out HB.out.size (.cells #[.int .i64 n6, .int .i64 n7, .int .i64 n8] 26))
        rw [← hw5] at HA HN HB
        clear hw5 hGE2
        obtain ⟨⟨qA0, qA1, qA2⟩, ⟨fA0, fA1, fA2⟩, zA⟩ := HA.out
        obtain ⟨⟨qN0, qN1, qN2, qN3, qN4, qN5, qN6, qN7, qN8⟩, ⟨fN0, fN1, fN2, fN3, fN4, fN5, fN6, fN7, fN8⟩, zN⟩ := HN.out
        obtain ⟨⟨qE20, qE21, qE22⟩, ⟨fE20, fE21, fE22⟩, zE2⟩ := HE2.out
        go_wp2_with fail
        go_at_call 63
        refine (HP2.out _).mono ?_
        rintro e w6 ⟨rfl, hb⟩
        clear qA0 fA0 qA1 fA1 qA2 fA2 zA qN0 fN0 qN1 fN1 qN2 fN2 qN3 fN3 qN4 fN4 qN5 fN5 qN6 fN6 qN7 fN7 qN8 fN8 zN qE20 fE20 qE21 fE21 qE22 fE22 zE2
        have HA := Lib.hid (HA.out.below hb)
        have HN := Lib.hid (HN.out.below hb)
        have HE2 := Lib.hid (HE2.out.below hb)
        have HB := Lib.hid (below_after hb HB.out)
        clear hb
        obtain ⟨⟨qA0, qA1, qA2⟩, ⟨fA0, fA1, fA2⟩, zA⟩ := HA.out
        obtain ⟨⟨qN0, qN1, qN2, qN3, qN4, qN5, qN6, qN7, qN8⟩, ⟨fN0, fN1, fN2, fN3, fN4, fN5, fN6, fN7, fN8⟩, zN⟩ := HN.out
        obtain ⟨⟨qE20, qE21, qE22⟩, ⟨fE20, fE21, fE22⟩, zE2⟩ := HE2.out
        go_wp2_with fail
        refine bodyPost_ret (v := .bool false) (by simp (maxDischargeDepth := 8) [results, Tryd.results67, go_sem, *]) rfl ?_
        have hb := HB.out
        exact ⟨by rw [HV.out], by (repeat' (first | (with_reducible exact Below.refl _ _) | (with_reducible refine Below.alloc ?_ ?_ _) | (with_reducible refine Below.setCell ?_ ?_ _) | (with_reducible refine Below.drew ?_) | (with_reducible refine below_drewN ?_ _) | (with_reducible assumption) | (with_reducible refine below_after (by with_reducible assumption) ?_) | go_size))⟩
      · skip
        have HV : Hid (inV P0 P1 P2 = true) := by show _ = _; simp [inV, h0, h1, h2]; omega
        obtain ⟨GA, hG⟩ : ∃ G, w.heap.size = G := ⟨_, rfl⟩
        have HG := Lib.hid hG
        go_enter Tryd.func67, Tryd.ntmps67
        go_upto_region 1 with fail
        obtain ⟨w0, hw0⟩ : ∃ w0, w0 = (w.alloc (.cells #[.int .i64 a0, .int .i64 a1, .int .i64 a2] 26)) := ⟨_, rfl⟩
        rw [← hw0]
        have HA : Hid (Bk3 w0 GA a0 a1 a2) := by
          have h := (bk3_new w a0 a1 a2 26).below (W' := (w.alloc (.cells #[.int .i64 a0, .int .i64 a1, .int .i64 a2] 26))) (by (repeat' (first | (with_reducible exact Below.refl _ _) | (with_reducible refine Below.alloc ?_ ?_ _) | (with_reducible refine Below.setCell ?_ ?_ _) | (with_reducible refine Below.drew ?_) | (with_reducible refine below_drewN ?_ _) | (with_reducible assumption) | (with_reducible refine below_after (by with_reducible assumption) ?_) | go_size)))
          (try simp only [World.size_alloc] at h)
          rw [hG] at h
          rw [hw0]; exact h
        have HB : Hid (Below w.heap.size w w0) := by show Below w.heap.size w w0; rw [hw0]; (repeat' (first | (with_reducible exact Below.refl _ _) | (with_reducible refine Below.alloc ?_ ?_ _) | (with_reducible refine Below.setCell ?_ ?_ _) | (with_reducible refine Below.drew ?_) | (with_reducible refine below_drewN ?_ _) | (with_reducible assumption) | (with_reducible refine below_after (by with_reducible assumption) ?_) | go_size))
        clear hw0
        have le_A : w.heap.size ≤ GA := by omega
        have HN := Lib.hid (HN0.out.below HB.out)
        obtain ⟨⟨qA0, qA1, qA2⟩, ⟨fA0, fA1, fA2⟩, zA⟩ := HA.out
        obtain ⟨⟨qN0, qN1, qN2, qN3, qN4, qN5, qN6, qN7, qN8⟩, ⟨fN0, fN1, fN2, fN3, fN4, fN5, fN6, fN7, fN8⟩, zN⟩ := HN.out
        go_wp2_with fail
        refine wp_loop_rounds 4 ?_
        clear qA0 fA0 qA1 fA1 qA2 fA2 zA qN0 fN0 qN1 fN1 qN2 fN2 qN3 fN3 qN4 fN4 qN5 fN5 qN6 fN6 qN7 fN7 qN8 fN8 zN
        rw [rounds_succ]
        obtain ⟨⟨qA0, qA1, qA2⟩, ⟨fA0, fA1, fA2⟩, zA⟩ := HA.out
        obtain ⟨⟨qN0, qN1, qN2, qN3, qN4, qN5, qN6, qN7, qN8⟩, ⟨fN0, fN1, fN2, fN3, fN4, fN5, fN6, fN7, fN8⟩, zN⟩ := HN.out
        go_upto_region 4 with fail
        obtain ⟨GE0, hGE0⟩ : ∃ g, w0.heap.size = g := ⟨_, rfl⟩
        obtain ⟨w1, hw1⟩ : ∃ wx, wx = w0.alloc (.cells #[.int .i64 n0, .int .i64 n1, .int .i64 n2] 26) := ⟨_, rfl⟩
        rw [← hw1, hGE0]
        have HE0 : Hid (Bk3 w1 GE0 n0 n1 n2) := by rw [hw1, ← hGE0]; exact bk3_new w0 n0 n1 n2 _
        have le_E0 : w.heap.size ≤ GE0 := by rw [← hGE0]; exact HB.out.size
        have ne_E0_A : GE0 ≠ GA := by have := HA.out.2.2; omega
        have ne_A_E0 : GA ≠ GE0 := Ne.symm ne_E0_A
        have ne_E0_N : GE0 ≠ GN := by have := HN.out.2.2; omega
        have ne_N_E0 : GN ≠ GE0 := Ne.symm ne_E0_N
        clear qA0 fA0 qA1 fA1 qA2 fA2 zA qN0 fN0 qN1 fN1 qN2 fN2 qN3 fN3 qN4 fN4 qN5 fN5 qN6 fN6 qN7 fN7 qN8 fN8 zN
        have HA := Lib.hid (HA.out.below ((Below.refl _ _).alloc (Nat.le_refl _) (.cells #[.int .i64 n0, .int .i64 n1, .int .i64 n2] 26)))
        have HN := Lib.hid (HN.out.below ((Below.refl _ _).alloc (Nat.le_refl _) (.cells #[.int .i64 n0, .int .i64 n1, .int .i64 n2] 26)))
        have HB := Lib.hid (Below.alloc HB.out HB.out.size (.cells #[.int .i64 n0, .int .i64 n1, .int .i64 n2] 26))
        rw [← hw1] at HA HN HB
        clear hw1 hGE0
        obtain ⟨⟨qA0, qA1, qA2⟩, ⟨fA0, fA1, fA2⟩, zA⟩ := HA.out
        obtain ⟨⟨qN0, qN1, qN2, qN3, qN4, qN5, qN6, qN7, qN8⟩, ⟨fN0, fN1, fN2, fN3, fN4, fN5, fN6, fN7, fN8⟩, zN⟩ := HN.out
        obtain ⟨⟨qE00, qE01, qE02⟩, ⟨fE00, fE01, fE02⟩, zE0⟩ := HE0.out
        go_wp2_with fail
        go_at_call 63
        refine (HP0.out _).mono ?_
        rintro e w2 ⟨rfl, hb⟩
        clear qA0 fA0 qA1 fA1 qA2 fA2 zA qN0 fN0 qN1 fN1 qN2 fN2 qN3 fN3 qN4 fN4 qN5 fN5 qN6 fN6 qN7 fN7 qN8 fN8 zN qE00 fE00 qE01 fE01 qE02 fE02 zE0
        have HA := Lib.hid (HA.out.below hb)
        have HN := Lib.hid (HN.out.below hb)
        have HE0 := Lib.hid (HE0.out.below hb)
        have HB := Lib.hid (below_after hb HB.out)
        clear hb
        obtain ⟨⟨qA0, qA1, qA2⟩, ⟨fA0, fA1, fA2⟩, zA⟩ := HA.out
        obtain ⟨⟨qN0, qN1, qN2, qN3, qN4, qN5, qN6, qN7, qN8⟩, ⟨fN0, fN1, fN2, fN3, fN4, fN5, fN6, fN7, fN8⟩, zN⟩ := HN.out
        obtain ⟨⟨qE00, qE01, qE02⟩, ⟨fE00, fE01, fE02⟩, zE0⟩ := HE0.out
        go_wp2_with fail
        clear qA0 fA0 qA1 fA1 qA2 fA2 zA qN0 fN0 qN1 fN1 qN2 fN2 qN3 fN3 qN4 fN4 qN5 fN5 qN6 fN6 qN7 fN7 qN8 fN8 zN qE00 fE00 qE01 fE01 qE02 fE02 zE0
        clear HE0
        rw [rounds_succ]
        obtain ⟨⟨qA0, qA1, qA2⟩, ⟨fA0, fA1, fA2⟩, zA⟩ := HA.out
        obtain ⟨⟨qN0, qN1, qN2, qN3, qN4, qN5, qN6, qN7, qN8⟩, ⟨fN0, fN1, fN2, fN3, fN4, fN5, fN6, fN7, fN8⟩, zN⟩ := HN.out
        go_upto_region 4 with fail
        obtain ⟨GE1, hGE1⟩ : ∃ g, w2.heap.size = g := ⟨_, rfl⟩
        obtain ⟨w3, hw3⟩ : ∃ wx, wx = w2.alloc (.cells #[.int .i64 n3, .int .i64 n4, .int .i64 n5] 26) := ⟨_, rfl⟩
        rw [← hw3, hGE1]
        have HE1 : Hid (Bk3 w3 GE1 n3 n4 n5) := by rw [hw3, ← hGE1]; exact bk3_new w2 n3 n4 n5 _
        have le_E1 : w.heap.size ≤ GE1 := by rw [← hGE1]; exact HB.out.size
        have ne_E1_A : GE1 ≠ GA := by have := HA.out.2.2; omega
        have ne_A_E1 : GA ≠ GE1 := Ne.symm ne_E1_A
        have ne_E1_N : GE1 ≠ GN := by have := HN.out.2.2; omega
        have ne_N_E1 : GN ≠ GE1 := Ne.symm ne_E1_N
        clear qA0 fA0 qA1 fA1 qA2 fA2 zA qN0 fN0 qN1 fN1 qN2 fN2 qN3 fN3 qN4 fN4 qN5 fN5 qN6 fN6 qN7 fN7 qN8 fN8 zN
        have HA := Lib.hid (HA.out.below ((Below.refl _ _).alloc (Nat.le_refl _) (.cells #[.int .i64 n3, .int .i64 n4, .int .i64 n5] 26)))
        have HN := Lib.hid (HN.out.below ((Below.refl _ _).alloc (Nat.le_refl _) (.cells #[.int .i64 n3, .int .i64 n4, .int .i64 n5] 26)))
        have HB := Lib.hid (Below.alloc HB.out HB.out.size (.cells #[.int .i64 n3, .int .i64 n4, .int .i64 n5] 26))
        rw [← hw3] at HA HN HB
        clear hw3 hGE1
        obtain ⟨⟨qA0, qA1, qA2⟩, ⟨fA0, fA1, fA2⟩, zA⟩ := HA.out
        obtain ⟨⟨qN0, qN1, qN2, qN3, qN4, qN5, qN6, qN7, qN8⟩, ⟨fN0, fN1, fN2, fN3, fN4, fN5, fN6, fN7, fN8⟩, zN⟩ := HN.out
        obtain ⟨⟨qE10, qE11, qE12⟩, ⟨fE10, fE11, fE12⟩, zE1⟩ := HE1.out
        go_wp2_with fail
        go_at_call 63
        refine (HP1.out _).mono ?_
        rintro e w4 ⟨rfl, hb⟩
        clear qA0 fA0 qA1 fA1 qA2 fA2 zA qN0 fN0 qN1 fN1 qN2 fN2 qN3 fN3 qN4 fN4 qN5 fN5 qN6 fN6 qN7 fN7 qN8 fN8 zN qE10 fE10 qE11 fE11 qE12 fE12 zE1
        have HA := Lib.hid (HA.out.below hb)
        have HN := Lib.hid (HN.out.below hb)
        have HE1 := Lib.hid (HE1.out.below hb)
        have HB := Lib.hid (below_after hb HB.out)
        clear hb
        obtain ⟨⟨qA0, qA1, qA2⟩, ⟨fA0, fA1, fA2⟩, zA⟩ := HA.out
        obtain ⟨⟨qN0, qN1, qN2, qN3, qN4, qN5, qN6, qN7, qN8⟩, ⟨fN0, fN1, fN2, fN3, fN4, fN5, fN6, fN7, fN8⟩, zN⟩ := HN.out
        obtain ⟨⟨qE10, qE11, qE12⟩, ⟨fE10, fE11, fE12⟩, zE1⟩ := HE1.out
        go_wp2_with fail
        clear qA0 fA0 qA1 fA1 qA2 fA2 zA qN0 fN0 qN1 fN1 qN2 fN2 qN3 fN3 qN4 fN4 qN5 fN5 qN6 fN6 qN7 fN7 qN8 fN8 zN qE10 fE10 qE11 fE11 qE12 fE12 zE1
        clear HE1
        rw [rounds_succ]
        obtain ⟨⟨qA0, qA1, qA2⟩, ⟨fA0, fA1, fA2⟩, zA⟩ := HA.out
        obtain ⟨⟨qN0, qN1, qN2, qN3, qN4, qN5, qN6, qN7, qN8⟩, ⟨fN0, fN1, fN2, fN3, fN4, fN5, fN6, fN7, fN8⟩, zN⟩ := HN.out
        go_upto_region 4 with fail
        obtain ⟨GE2, hGE2⟩ : ∃ g, w4.heap.size = g := ⟨_, rfl⟩
        obtain ⟨w5, hw5⟩ : ∃ wx, wx = w4.alloc (.cells #[.int .i64 n6, .int .i64 n7, .int .i64 n8] 26) := ⟨_, rfl⟩
        rw [← hw5, hGE2]
        have HE2 : Hid (Bk3 w5 GE2 n6 n7 n8) := by rw [hw5, ← hGE2]; exact bk3_new w4 n6 n7 n8 _
        have le_E2 : w.heap.size ≤ GE2 := by rw [← hGE2]; exact HB.out.size
        have ne_E2_A : GE2 ≠ GA := by have := HA.out.2.2; omega
        have ne_A_E2 : GA ≠ GE2 := Ne.symm ne_E2_A
        have ne_E2_N : GE2 ≠ GN := by have := HN.out.2.2; omega
        have ne_N_E2 : GN ≠ GE2 := Ne.symm ne_E2_N
        clear qA0 fA0 qA1 fA1 qA2 fA2 zA qN0 fN0 qN1 fN1 qN2 fN2 qN3 fN3 qN4 fN4 qN5 fN5 qN6 fN6 qN7 fN7 qN8 fN8 zN
        have HA := Lib.hid (HA.out.below ((Below.refl _ _).alloc (Nat.le_refl _) (.cells #[.int .i64 n6, .int .i64 n7, .int .i64 n8] 26)))
        have HN := Lib.hid (HN.out.below ((Below.refl _ _).alloc (Nat.le_refl _) (.cells #[.int .i64 n6, .int .i64 n7, .int .i64 n8] 26)))
        have HB := Lib.hid (Below.alloc HB.out HB.out.size (.cells #[.int .i64 n6, .int .i64 n7, .int .i64 n8] 26))
        rw [← hw5] at HA HN HB
        clear hw5 hGE2
        obtain ⟨⟨qA0, qA1, qA2⟩, ⟨fA0, fA1, fA2⟩, zA⟩ := HA.out
        obtain ⟨⟨qN0, qN1, qN2, qN3, qN4, qN5, qN6, qN7, qN8⟩, ⟨fN0, fN1, fN2, fN3, fN4, fN5, fN6, fN7, fN8⟩, zN⟩ := HN.out
        obtain ⟨⟨qE20, qE21, qE22⟩, ⟨fE20, fE21, fE22⟩, zE2⟩ := HE2.out
        go_wp2_with fail
        go_at_call 63
        refine (HP2.out _).mono ?_
        rintro e w6 ⟨rfl, hb⟩
        clear qA0 fA0 qA1 fA1 qA2 fA2 zA qN0 fN0 qN1 fN1 qN2 fN2 qN3 fN3 qN4 fN4 qN5 fN5 qN6 fN6 qN7 fN7 qN8 fN8 zN qE20 fE20 qE21 fE21 qE22 fE22 zE2
        have HA := Lib.hid (HA.out.below hb)
        have HN := Lib.hid (HN.out.below hb)
        have HE2 := Lib.hid (HE2.out.below hb)
        have HB := Lib.hid (below_after hb HB.out)
        clear hb
        obtain ⟨⟨qA0, qA1, qA2⟩, ⟨fA0, fA1, fA2⟩, zA⟩ := HA.out
        obtain ⟨⟨qN0, qN1, qN2, qN3, qN4, qN5, qN6, qN7, qN8⟩, ⟨fN0, fN1, fN2, fN3, fN4, fN5, fN6, fN7, fN8⟩, zN⟩ := HN.out
        obtain ⟨⟨qE20, qE21, qE22⟩, ⟨fE20, fE21, fE22⟩, zE2⟩ := HE2.out
        go_wp2_with fail
        clear qA0 fA0 qA1 fA1 qA2 fA2 zA qN0 fN0 qN1 fN1 qN2 fN2 qN3 fN3 qN4 fN4 qN5 fN5 qN6 fN6 qN7 fN7 qN8 fN8 zN qE20 fE20 qE21 fE21 qE22 fE22 zE2
        clear HE2
        rw [rounds_succ]
        obtain ⟨⟨qA0, qA1, qA2⟩, ⟨fA0, fA1, fA2⟩, zA⟩ := HA.out
        obtain ⟨⟨qN0, qN1, qN2, qN3, qN4, qN5, qN6, qN7, qN8⟩, ⟨fN0, fN1, fN2, fN3, fN4, fN5, fN6, fN7, fN8⟩, zN⟩ := HN.out
        go_wp2_with fail
        refine bodyPost_ret (v := .bool true) (by simp (maxDischargeDepth := 8) [results, Tryd.results67, go_sem, *]) rfl ?_
        have hb := HB.out
        exact ⟨by rw [HV.out], by (repeat' (first | (with_reducible exact Below.refl _ _) | (with_reducible refine Below.alloc ?_ ?_ _) | (with_reducible refine Below.setCell ?_ ?_ _) | (with_reducible refine Below.drew ?_) | (with_reducible refine below_drewN ?_ _) | (with_reducible assumption) | (with_reducible refine below_after (by with_reducible assumption) ?_) | go_size))⟩
end Go.Proofs.YtjjblgmokmalaaaDoor
