/-
  Lengths, ends and the shortest rule, in the program and in the model (own work).
-/
import Derived.Test.YtbgifgfegndlkaaTrZ
namespace Go.Proofs.Ytbgifgfegndlkaa
open Go.ChangeShapes Go.WideShapes Go.ChangeAt Go.RowKit
set_option linter.unusedVariables false
set_option linter.unusedSimpArgs false
set_option maxRecDepth 100000

theorem lnV_zero {a b c r : Int} (h : lnK a b c r ≠ 0) : lnV a b c r = 0 ∧ edV a b c r = (0, 0, 0) := by
  unfold lnK at h
  unfold lnV edV
  by_cases h0 : scd a b c r = 0
  · rw [if_pos h0] at h
    rw [if_pos h0, if_pos h0]
    cases ho : enO a b c r with
    | none => exact ⟨rfl, rfl⟩
    | some p => rw [ho] at h; exact absurd rfl h
  · rw [if_neg h0, if_neg h0]
    exact ⟨rfl, rfl⟩
set_option maxHeartbeats 1600000 in
theorem impl_LengthOfRun_any (a b c r : Int) (w : World) : Calls Try.prog 32 #[.agg #[.int .i64 a, .int .i64 b, .int .i64 c], .int .i64 r] w fun e w' => e = .returned (.tuple #[.int .i64 (lnV a b c r), .int .i64 (lnK a b c r)]) ∧ Below w.heap.size w w' := by
  have HW := Lib.hid (fun w => wholeRun_any a b c r w)
  by_cases h : lnK a b c r = 0
  · obtain ⟨m, hm, hm3, hln, hed⟩ := whV_end h
    have HLEN := Lib.hid hm
    obtain ⟨⟨X, Y, Z⟩, hX⟩ : ∃ s, edV a b c r = s := ⟨_, rfl⟩
    rw [hX] at hed
    have HEDE := Lib.hid hed
    rw [h] at HW ⊢
    (try rw [hln]); (try rw [hX])
    clear h hm hln hed hX
    obtain ⟨GT, hG⟩ : ∃ G, w.heap.size = G := ⟨_, rfl⟩
    have HG := Lib.hid hG
    go_enter Try.func32, Try.ntmps32
    go_upto_region 1 with fail
    obtain ⟨w0, hw0⟩ : ∃ w0, w0 = (w.alloc (.cells #[.int .i64 a, .int .i64 b, .int .i64 c] 24)) := ⟨_, rfl⟩
    rw [← hw0]
    have HT : Hid (Bk3 w0 GT a b c) := by
      have h := (bk3_new w a b c 24).below (W' := (w.alloc (.cells #[.int .i64 a, .int .i64 b, .int .i64 c] 24))) (by (repeat' (first | (with_reducible exact Below.refl _ _) | (with_reducible refine Below.alloc ?_ ?_ _) | (with_reducible refine Below.setCell ?_ ?_ _) | (with_reducible refine Below.drew ?_) | (with_reducible refine below_drewN ?_ _) | (with_reducible assumption) | (with_reducible refine below_after (by with_reducible assumption) ?_) | go_size)))
      (try simp only [World.size_alloc] at h)
      rw [hG] at h
      rw [hw0]; exact h
    have HB : Hid (Below w.heap.size w w0) := by show Below w.heap.size w w0; rw [hw0]; (repeat' (first | (with_reducible exact Below.refl _ _) | (with_reducible refine Below.alloc ?_ ?_ _) | (with_reducible refine Below.setCell ?_ ?_ _) | (with_reducible refine Below.drew ?_) | (with_reducible refine below_drewN ?_ _) | (with_reducible assumption) | (with_reducible refine below_after (by with_reducible assumption) ?_) | go_size))
    clear hw0
    have le_T : w.heap.size ≤ GT := by omega
    have HB0 := HB
    obtain ⟨⟨qT0, qT1, qT2⟩, ⟨fT0, fT1, fT2⟩, zT⟩ := HT.out
    go_wp2_with fail
    go_at_call 68
    refine (HW.out _).mono ?_
    rintro e w1 ⟨v, rfl, ho, hb⟩
    clear qT0 fT0 qT1 fT1 qT2 fT2 zT
    have HT := Lib.hid (HT.out.below hb)
    have HB := Lib.hid (below_after hb HB.out)
    clear hb
    have HY : Hid (OwnT w.heap.size _ v (whV a b c r)) := own_up ho HB0.out.size
    obtain ⟨g, cap, rfl, hg, hlc⟩ := own_last HY.out HLEN.out
    obtain ⟨l0, l1, l2⟩ := hlc _ HY.out
    rw [HEDE.out] at l0 l1 l2
    simp only at l0 l1 l2
    clear ho hlc
    have hwm : IntKind.i64.wrap ((m : Int) + 1 - 1) = (m : Int) := by rw [IntKind.wrap_i64]; omega
    have hwm2 : IntKind.i64.wrap (m : Int) = (m : Int) := by rw [IntKind.wrap_i64]; omega
    have i0 : (0 : Int) ≤ (m : Int) := by omega
    have i1 : (m : Int) < (m : Int) + 1 := by omega
    obtain ⟨⟨qT0, qT1, qT2⟩, ⟨fT0, fT1, fT2⟩, zT⟩ := HT.out
    go_wp2_with fail
    refine bodyPost_ret (v := .tuple #[.int .i64 (m : Int), .int .i64 0]) (by simp (maxDischargeDepth := 8) [results, Try.results32, go_sem, *]) rfl ?_
    have hb := HB.out
    exact ⟨rfl, by (repeat' (first | (with_reducible exact Below.refl _ _) | (with_reducible refine Below.alloc ?_ ?_ _) | (with_reducible refine Below.setCell ?_ ?_ _) | (with_reducible refine Below.drew ?_) | (with_reducible refine below_drewN ?_ _) | (with_reducible assumption) | (with_reducible refine below_after (by with_reducible assumption) ?_) | go_size))⟩
  · obtain ⟨h1, h2⟩ := lnV_zero h
    (try rw [h1]); (try rw [h2])
    have h0 : (lnK a b c r == 0) = false := by simpa using h
    obtain ⟨K, hK⟩ : ∃ K, lnK a b c r = K := ⟨_, rfl⟩
    rw [hK] at HW h0 ⊢
    clear h hK h1 h2
    obtain ⟨GT, hG⟩ : ∃ G, w.heap.size = G := ⟨_, rfl⟩
    have HG := Lib.hid hG
    go_enter Try.func32, Try.ntmps32
    go_upto_region 1 with fail
    obtain ⟨w0, hw0⟩ : ∃ w0, w0 = (w.alloc (.cells #[.int .i64 a, .int .i64 b, .int .i64 c] 24)) := ⟨_, rfl⟩
    rw [← hw0]
    have HT : Hid (Bk3 w0 GT a b c) := by
      have h := (bk3_new w a b c 24).below (W' := (w.alloc (.cells #[.int .i64 a, .int .i64 b, .int .i64 c] 24))) (by (repeat' (first | (with_reducible exact Below.refl _ _) | (with_reducible refine Below.alloc ?_ ?_ _) | (with_reducible refine Below.setCell ?_ ?_ _) | (with_reducible refine Below.drew ?_) | (with_reducible refine below_drewN ?_ _) | (with_reducible assumption) | (with_reducible refine below_after (by with_reducible assumption) ?_) | go_size)))
      (try simp only [World.size_alloc] at h)
      rw [hG] at h
      rw [hw0]; exact h
    have HB : Hid (Below w.heap.size w w0) := by show Below w.heap.size w w0; rw [hw0]; (repeat' (first | (with_reducible exact Below.refl _ _) | (with_reducible refine Below.alloc ?_ ?_ _) | (with_reducible refine Below.setCell ?_ ?_ _) | (with_reducible refine Below.drew ?_) | (with_reducible refine below_drewN ?_ _) | (with_reducible assumption) | (with_reducible refine below_after (by with_reducible assumption) ?_) | go_size))
    clear hw0
    have le_T : w.heap.size ≤ GT := by omega
    obtain ⟨⟨qT0, qT1, qT2⟩, ⟨fT0, fT1, fT2⟩, zT⟩ := HT.out
    go_wp2_with fail
    go_at_call 68
    refine (HW.out _).mono ?_
    rintro e w1 ⟨v, rfl, ho, hb⟩
    clear qT0 fT0 qT1 fT1 qT2 fT2 zT
    have HT := Lib.hid (HT.out.below hb)
    have HB := Lib.hid (below_after hb HB.out)
    clear hb
    clear ho
    obtain ⟨⟨qT0, qT1, qT2⟩, ⟨fT0, fT1, fT2⟩, zT⟩ := HT.out
    go_wp2_with fail
    refine bodyPost_ret (v := .tuple #[.int .i64 0, .int .i64 K]) (by simp (maxDischargeDepth := 8) [results, Try.results32, go_sem, *]) rfl ?_
    have hb := HB.out
    exact ⟨rfl, by (repeat' (first | (with_reducible exact Below.refl _ _) | (with_reducible refine Below.alloc ?_ ?_ _) | (with_reducible refine Below.setCell ?_ ?_ _) | (with_reducible refine Below.drew ?_) | (with_reducible refine below_drewN ?_ _) | (with_reducible assumption) | (with_reducible refine below_after (by with_reducible assumption) ?_) | go_size))⟩
set_option maxHeartbeats 1600000 in
theorem impl_EndOfRun_any (a b c r : Int) (w : World) : Calls Try.prog 34 #[.agg #[.int .i64 a, .int .i64 b, .int .i64 c], .int .i64 r] w fun e w' => e = .returned (.tuple #[.agg #[.int .i64 ((edV a b c r).1), .int .i64 ((edV a b c r).2.1), .int .i64 ((edV a b c r).2.2)], .int .i64 (lnK a b c r)]) ∧ Below w.heap.size w w' := by
  have HW := Lib.hid (fun w => wholeRun_any a b c r w)
  by_cases h : lnK a b c r = 0
  · obtain ⟨m, hm, hm3, hln, hed⟩ := whV_end h
    have HLEN := Lib.hid hm
    obtain ⟨⟨X, Y, Z⟩, hX⟩ : ∃ s, edV a b c r = s := ⟨_, rfl⟩
    rw [hX] at hed
    have HEDE := Lib.hid hed
    rw [h] at HW ⊢
    (try rw [hln]); (try rw [hX])
    clear h hm hln hed hX
    obtain ⟨GT, hG⟩ : ∃ G, w.heap.size = G := ⟨_, rfl⟩
    have HG := Lib.hid hG
    go_enter Try.func34, Try.ntmps34
    go_upto_region 1 with fail
    obtain ⟨w0, hw0⟩ : ∃ w0, w0 = ((w.alloc (.cells #[.int .i64 a, .int .i64 b, .int .i64 c] 24)).alloc (.cells #[.int .i64 0, .int .i64 0, .int .i64 0] 24)) := ⟨_, rfl⟩
    rw [← hw0]
    have HT : Hid (Bk3 w0 GT a b c) := by
      have h := (bk3_new w a b c 24).below (W' := ((w.alloc (.cells #[.int .i64 a, .int .i64 b, .int .i64 c] 24)).alloc (.cells #[.int .i64 0, .int .i64 0, .int .i64 0] 24))) (by (repeat' (first | (with_reducible exact Below.refl _ _) | (with_reducible refine Below.alloc ?_ ?_ _) | (with_reducible refine Below.setCell ?_ ?_ _) | (with_reducible refine Below.drew ?_) | (with_reducible refine below_drewN ?_ _) | (with_reducible assumption) | (with_reducible refine below_after (by with_reducible assumption) ?_) | go_size)))
      (try simp only [World.size_alloc] at h)
      rw [hG] at h
      rw [hw0]; exact h
    have HR : Hid (Bk3 w0 (GT + 1) 0 0 0) := by
      have h := (bk3_new (w.alloc (.cells #[.int .i64 a, .int .i64 b, .int .i64 c] 24)) 0 0 0 24).below (W' := ((w.alloc (.cells #[.int .i64 a, .int .i64 b, .int .i64 c] 24)).alloc (.cells #[.int .i64 0, .int .i64 0, .int .i64 0] 24))) (by (repeat' (first | (with_reducible exact Below.refl _ _) | (with_reducible refine Below.alloc ?_ ?_ _) | (with_reducible refine Below.setCell ?_ ?_ _) | (with_reducible refine Below.drew ?_) | (with_reducible refine below_drewN ?_ _) | (with_reducible assumption) | (with_reducible refine below_after (by with_reducible assumption) ?_) | go_size)))
      (try simp only [World.size_alloc] at h)
      rw [hG] at h
      rw [hw0]; exact h
    have HB : Hid (Below w.heap.size w w0) := by show Below w.heap.size w w0; rw [hw0]; (repeat' (first | (with_reducible exact Below.refl _ _) | (with_reducible refine Below.alloc ?_ ?_ _) | (with_reducible refine Below.setCell ?_ ?_ _) | (with_reducible refine Below.drew ?_) | (with_reducible refine below_drewN ?_ _) | (with_reducible assumption) | (with_reducible refine below_after (by with_reducible assumption) ?_) | go_size))
    clear hw0
    obtain ⟨GR, hGR⟩ : ∃ g, GT + 1 = g := ⟨_, rfl⟩
    rw [hGR] at HR ⊢
    have le_T : w.heap.size ≤ GT := by omega
    have le_R : w.heap.size ≤ GR := by omega
    have ne_R_T : GR ≠ GT := by omega
    have ne_T_R : GT ≠ GR := by omega
    clear hGR
    have HB0 := HB
    obtain ⟨⟨qT0, qT1, qT2⟩, ⟨fT0, fT1, fT2⟩, zT⟩ := HT.out
    obtain ⟨⟨qR0, qR1, qR2⟩, ⟨fR0, fR1, fR2⟩, zR⟩ := HR.out
    go_wp2_with fail
    go_at_call 68
    refine (HW.out _).mono ?_
    rintro e w1 ⟨v, rfl, ho, hb⟩
    clear qT0 fT0 qT1 fT1 qT2 fT2 zT qR0 fR0 qR1 fR1 qR2 fR2 zR
    have HT := Lib.hid (HT.out.below hb)
    have HR := Lib.hid (HR.out.below hb)
    have HB := Lib.hid (below_after hb HB.out)
    clear hb
    have HY : Hid (OwnT w.heap.size _ v (whV a b c r)) := own_up ho HB0.out.size
    obtain ⟨g, cap, rfl, hg, hlc⟩ := own_last HY.out HLEN.out
    obtain ⟨l0, l1, l2⟩ := hlc _ HY.out
    rw [HEDE.out] at l0 l1 l2
    simp only at l0 l1 l2
    clear ho hlc
    have hwm : IntKind.i64.wrap ((m : Int) + 1 - 1) = (m : Int) := by rw [IntKind.wrap_i64]; omega
    have hwm2 : IntKind.i64.wrap (m : Int) = (m : Int) := by rw [IntKind.wrap_i64]; omega
    have i0 : (0 : Int) ≤ (m : Int) := by omega
    have i1 : (m : Int) < (m : Int) + 1 := by omega
    obtain ⟨⟨qT0, qT1, qT2⟩, ⟨fT0, fT1, fT2⟩, zT⟩ := HT.out
    obtain ⟨⟨qR0, qR1, qR2⟩, ⟨fR0, fR1, fR2⟩, zR⟩ := HR.out
    go_wp2_with fail
    refine bodyPost_ret (v := .tuple #[.agg #[.int .i64 X, .int .i64 Y, .int .i64 Z], .int .i64 0]) (by simp (maxDischargeDepth := 8) [results, Try.results34, go_sem, *]) rfl ?_
    have hb := HB.out
    exact ⟨rfl, by (repeat' (first | (with_reducible exact Below.refl _ _) | (with_reducible refine Below.alloc ?_ ?_ _) | (with_reducible refine Below.setCell ?_ ?_ _) | (with_reducible refine Below.drew ?_) | (with_reducible refine below_drewN ?_ _) | (with_reducible assumption) | (with_reducible refine below_after (by with_reducible assumption) ?_) | go_size))⟩
  · obtain ⟨h1, h2⟩ := lnV_zero h
    (try rw [h1]); (try rw [h2])
    have h0 : (lnK a b c r == 0) = false := by simpa using h
    obtain ⟨K, hK⟩ : ∃ K, lnK a b c r = K := ⟨_, rfl⟩
    rw [hK] at HW h0 ⊢
    clear h hK h1 h2
    obtain ⟨GT, hG⟩ : ∃ G, w.heap.size = G := ⟨_, rfl⟩
    have HG := Lib.hid hG
    go_enter Try.func34, Try.ntmps34
    go_upto_region 1 with fail
    obtain ⟨w0, hw0⟩ : ∃ w0, w0 = ((w.alloc (.cells #[.int .i64 a, .int .i64 b, .int .i64 c] 24)).alloc (.cells #[.int .i64 0, .int .i64 0, .int .i64 0] 24)) := ⟨_, rfl⟩
    rw [← hw0]
    have HT : Hid (Bk3 w0 GT a b c) := by
      have h := (bk3_new w a b c 24).below (W' := ((w.alloc (.cells #[.int .i64 a, .int .i64 b, .int .i64 c] 24)).alloc (.cells #[.int .i64 0, .int .i64 0, .int .i64 0] 24))) (by (repeat' (first | (with_reducible exact Below.refl _ _) | (with_reducible refine Below.alloc ?_ ?_ _) | (with_reducible refine Below.setCell ?_ ?_ _) | (with_reducible refine Below.drew ?_) | (with_reducible refine below_drewN ?_ _) | (with_reducible assumption) | (with_reducible refine below_after (by with_reducible assumption) ?_) | go_size)))
      (try simp only [World.size_alloc] at h)
      rw [hG] at h
      rw [hw0]; exact h
    have HR : Hid (Bk3 w0 (GT + 1) 0 0 0) := by
      have h := (bk3_new (w.alloc (.cells #[.int .i64 a, .int .i64 b, .int .i64 c] 24)) 0 0 0 24).below (W' := ((w.alloc (.cells #[.int .i64 a, .int .i64 b, .int .i64 c] 24)).alloc (.cells #[.int .i64 0, .int .i64 0, .int .i64 0] 24))) (by (repeat' (first | (with_reducible exact Below.refl _ _) | (with_reducible refine Below.alloc ?_ ?_ _) | (with_reducible refine Below.setCell ?_ ?_ _) | (with_reducible refine Below.drew ?_) | (with_reducible refine below_drewN ?_ _) | (with_reducible assumption) | (with_reducible refine below_after (by with_reducible assumption) ?_) | go_size)))
      (try simp only [World.size_alloc] at h)
      rw [hG] at h
      rw [hw0]; exact h
    have HB : Hid (Below w.heap.size w w0) := by show Below w.heap.size w w0; rw [hw0]; (repeat' (first | (with_reducible exact Below.refl _ _) | (with_reducible refine Below.alloc ?_ ?_ _) | (with_reducible refine Below.setCell ?_ ?_ _) | (with_reducible refine Below.drew ?_) | (with_reducible refine below_drewN ?_ _) | (with_reducible assumption) | (with_reducible refine below_after (by with_reducible assumption) ?_) | go_size))
    clear hw0
    obtain ⟨GR, hGR⟩ : ∃ g, GT + 1 = g := ⟨_, rfl⟩
    rw [hGR] at HR ⊢
    have le_T : w.heap.size ≤ GT := by omega
    have le_R : w.heap.size ≤ GR := by omega
    have ne_R_T : GR ≠ GT := by omega
    have ne_T_R : GT ≠ GR := by omega
    clear hGR
    obtain ⟨⟨qT0, qT1, qT2⟩, ⟨fT0, fT1, fT2⟩, zT⟩ := HT.out
    obtain ⟨⟨qR0, qR1, qR2⟩, ⟨fR0, fR1, fR2⟩, zR⟩ := HR.out
    go_wp2_with fail
    go_at_call 68
    refine (HW.out _).mono ?_
    rintro e w1 ⟨v, rfl, ho, hb⟩
    clear qT0 fT0 qT1 fT1 qT2 fT2 zT qR0 fR0 qR1 fR1 qR2 fR2 zR
    have HT := Lib.hid (HT.out.below hb)
    have HR := Lib.hid (HR.out.below hb)
    have HB := Lib.hid (below_after hb HB.out)
    clear hb
    clear ho
    obtain ⟨⟨qT0, qT1, qT2⟩, ⟨fT0, fT1, fT2⟩, zT⟩ := HT.out
    obtain ⟨⟨qR0, qR1, qR2⟩, ⟨fR0, fR1, fR2⟩, zR⟩ := HR.out
    go_wp2_with fail
    refine bodyPost_ret (v := .tuple #[.agg #[.int .i64 0, .int .i64 0, .int .i64 0], .int .i64 K]) (by simp (maxDischargeDepth := 8) [results, Try.results34, go_sem, *]) rfl ?_
    have hb := HB.out
    exact ⟨rfl, by (repeat' (first | (with_reducible exact Below.refl _ _) | (with_reducible refine Below.alloc ?_ ?_ _) | (with_reducible refine Below.setCell ?_ ?_ _) | (with_reducible refine Below.drew ?_) | (with_reducible refine below_drewN ?_ _) | (with_reducible assumption) | (with_reducible refine below_after (by with_reducible assumption) ?_) | go_size))⟩
/-- The best of the first j rules, and its length (less than 0: none yet). -/
def shS (a b c : Int) : Nat → Int × Int
  | 0 => (0, -1)
  | j + 1 => match endF j 300 (a, b, c) with
    | some q => if (shS a b c j).2 < 0 ∨ (q.2 : Int) < (shS a b c j).2 then ((j : Int), (q.2 : Int)) else shS a b c j
    | none => shS a b c j
theorem shS_bd (a b c : Int) : ∀ j, -1 ≤ (shS a b c j).2 ∧ (shS a b c j).2 ≤ 300
  | 0 => by simp [shS]
  | j + 1 => by
    have ih := shS_bd a b c j
    rw [shS]
    cases h : endF j 300 (a, b, c) with
    | none => exact ih
    | some q =>
      have := endF_le _ _ _ h
      simp only
      split
      · simp; omega
      · exact ih
def lsI (l : Int) : Int := if l < 0 then 301 else l
def shV (a b c : Int) : Int := if isSt a b c = true then (if (shS a b c 4).2 < 0 then 0 else (shS a b c 4).1) else 0
def shK (a b c : Int) : Int := if isSt a b c = true then (if (shS a b c 4).2 < 0 then 3 else 0) else 1
set_option maxHeartbeats 3200000 in
theorem spec_ShortestRule_any (a b c : Int) (w : World) : Calls Try.prog 52 #[.agg #[.int .i64 a, .int .i64 b, .int .i64 c]] w fun e w' => e = .returned (.tuple #[.int .i64 (shV a b c), .int .i64 (shK a b c)]) ∧ Below w.heap.size w w' := by
  have HC := Lib.hid (fun w => l07Code_any a b c 0 w)
  cases hs : isSt a b c
  · rw [show scd a b c 0 = 1 from by unfold scd; rw [if_neg (by rw [hs]; decide)]] at HC
    rw [show shV a b c = 0 from by unfold shV; rw [if_neg (by rw [hs]; decide)], show shK a b c = 1 from by unfold shK; rw [if_neg (by rw [hs]; decide)]]
    clear hs
    obtain ⟨GT, hG⟩ : ∃ G, w.heap.size = G := ⟨_, rfl⟩
    have HG := Lib.hid hG
    go_enter Try.func52, Try.ntmps52
    go_upto_region 1 with fail
    obtain ⟨w0, hw0⟩ : ∃ w0, w0 = (w.alloc (.cells #[.int .i64 a, .int .i64 b, .int .i64 c] 24)) := ⟨_, rfl⟩
    rw [← hw0]
    have HT : Hid (Bk3 w0 GT a b c) := by
      have h := (bk3_new w a b c 24).below (W' := (w.alloc (.cells #[.int .i64 a, .int .i64 b, .int .i64 c] 24))) (by (repeat' (first | (with_reducible exact Below.refl _ _) | (with_reducible refine Below.alloc ?_ ?_ _) | (with_reducible refine Below.setCell ?_ ?_ _) | (with_reducible refine Below.drew ?_) | (with_reducible refine below_drewN ?_ _) | (with_reducible assumption) | (with_reducible refine below_after (by with_reducible assumption) ?_) | go_size)))
      (try simp only [World.size_alloc] at h)
      rw [hG] at h
      rw [hw0]; exact h
    have HB : Hid (Below w.heap.size w w0) := by show Below w.heap.size w w0; rw [hw0]; (repeat' (first | (with_reducible exact Below.refl _ _) | (with_reducible refine Below.alloc ?_ ?_ _) | (with_reducible refine Below.setCell ?_ ?_ _) | (with_reducible refine Below.drew ?_) | (with_reducible refine below_drewN ?_ _) | (with_reducible assumption) | (with_reducible refine below_after (by with_reducible assumption) ?_) | go_size))
    clear hw0
    have le_T : w.heap.size ≤ GT := by omega
    obtain ⟨⟨qT0, qT1, qT2⟩, ⟨fT0, fT1, fT2⟩, zT⟩ := HT.out
    go_wp2_with fail
    go_at_call 59
    refine (HC.out _).mono ?_
    rintro e w1 ⟨rfl, hb⟩
    clear qT0 fT0 qT1 fT1 qT2 fT2 zT
    have HT := Lib.hid (HT.out.below hb)
    have HB := Lib.hid (below_after hb HB.out)
    clear hb
    obtain ⟨⟨qT0, qT1, qT2⟩, ⟨fT0, fT1, fT2⟩, zT⟩ := HT.out
    go_wp2_with fail
    refine bodyPost_ret (v := .tuple #[.int .i64 0, .int .i64 1]) (by simp (maxDischargeDepth := 8) [results, Try.results52, go_sem, *]) rfl ?_
    have hb := HB.out
    exact ⟨rfl, by (repeat' (first | (with_reducible exact Below.refl _ _) | (with_reducible refine Below.alloc ?_ ?_ _) | (with_reducible refine Below.setCell ?_ ?_ _) | (with_reducible refine Below.drew ?_) | (with_reducible refine below_drewN ?_ _) | (with_reducible assumption) | (with_reducible refine below_after (by with_reducible assumption) ?_) | go_size))⟩
  · rw [show scd a b c 0 = 0 from by unfold scd; rw [if_pos hs]; rfl] at HC
    have HS := Lib.hid hs
    clear hs
    obtain ⟨GT, hG⟩ : ∃ G, w.heap.size = G := ⟨_, rfl⟩
    have HG := Lib.hid hG
    go_enter Try.func52, Try.ntmps52
    go_upto_region 1 with fail
    obtain ⟨w0, hw0⟩ : ∃ w0, w0 = (w.alloc (.cells #[.int .i64 a, .int .i64 b, .int .i64 c] 24)) := ⟨_, rfl⟩
    rw [← hw0]
    have HT : Hid (Bk3 w0 GT a b c) := by
      have h := (bk3_new w a b c 24).below (W' := (w.alloc (.cells #[.int .i64 a, .int .i64 b, .int .i64 c] 24))) (by (repeat' (first | (with_reducible exact Below.refl _ _) | (with_reducible refine Below.alloc ?_ ?_ _) | (with_reducible refine Below.setCell ?_ ?_ _) | (with_reducible refine Below.drew ?_) | (with_reducible refine below_drewN ?_ _) | (with_reducible assumption) | (with_reducible refine below_after (by with_reducible assumption) ?_) | go_size)))
      (try simp only [World.size_alloc] at h)
      rw [hG] at h
      rw [hw0]; exact h
    have HB : Hid (Below w.heap.size w w0) := by show Below w.heap.size w w0; rw [hw0]; (repeat' (first | (with_reducible exact Below.refl _ _) | (with_reducible refine Below.alloc ?_ ?_ _) | (with_reducible refine Below.setCell ?_ ?_ _) | (with_reducible refine Below.drew ?_) | (with_reducible refine below_drewN ?_ _) | (with_reducible assumption) | (with_reducible refine below_after (by with_reducible assumption) ?_) | go_size))
    clear hw0
    have le_T : w.heap.size ≤ GT := by omega
    obtain ⟨⟨qT0, qT1, qT2⟩, ⟨fT0, fT1, fT2⟩, zT⟩ := HT.out
    go_wp2_with fail
    go_at_call 59
    refine (HC.out _).mono ?_
    rintro e w1 ⟨rfl, hb⟩
    clear qT0 fT0 qT1 fT1 qT2 fT2 zT
    have HT := Lib.hid (HT.out.below hb)
    have HB := Lib.hid (below_after hb HB.out)
    clear hb
    obtain ⟨⟨qT0, qT1, qT2⟩, ⟨fT0, fT1, fT2⟩, zT⟩ := HT.out
    go_wp2_with fail
    clear qT0 fT0 qT1 fT1 qT2 fT2 zT
    have HLE := Lib.hid le_T
    go_loopw [5, 6, 7] (fun y5 y6 y7 wr => ∃ j : Nat, y5 = .int .i64 (shS a b c j).1 ∧ y6 = .int .i64 (shS a b c j).2 ∧ y7 = .int .i64 (j : Int) ∧ j ≤ 4 ∧ Bk3 wr GT a b c ∧ Below w.heap.size w wr) (fun _ _ y7 _ => 4 - (intOf y7).toNat)
    case atStart => exact ⟨0, rfl, rfl, rfl, by omega, HT.out, HB.out⟩
    case round =>
      obtain ⟨j, rfl, rfl, rfl, hj, hT, hbel⟩ := hrel
      clear HT HB
      have HT := Lib.hid hT
      have HB := Lib.hid hbel
      clear hT hbel
      have le_T := HLE.out
      have hbd := shS_bd a b c j
      by_cases hj4 : j < 4
      · have HE := Lib.hid (fun w => l07End_any j hj4 a b c HS.out w)
        have hnx : shS a b c (j + 1) = (match endF j 300 (a, b, c) with | some q => if (shS a b c j).2 < 0 ∨ (q.2 : Int) < (shS a b c j).2 then ((j : Int), (q.2 : Int)) else shS a b c j | none => shS a b c j) := rfl
        obtain ⟨⟨p, l⟩, hp⟩ : ∃ p, shS a b c j = p := ⟨_, rfl⟩
        rw [hp] at hnx hbd ⊢
        simp only at hnx hbd ⊢
        cases ho : endF j 300 (a, b, c) with
        | none =>
          rw [ho] at HE hnx
          simp only [eE, eN, eB] at HE hnx
          have HNX := Lib.hid hnx
          clear hnx ho hp
          obtain ⟨⟨qT0, qT1, qT2⟩, ⟨fT0, fT1, fT2⟩, zT⟩ := HT.out
          go_wp2_with fail
          go_at_call 67
          refine (HE.out _).mono ?_
          rintro e w21 ⟨rfl, hb⟩
          clear qT0 fT0 qT1 fT1 qT2 fT2 zT
          have HT := Lib.hid (HT.out.below hb)
          have HB := Lib.hid (below_after hb HB.out)
          clear hb
          obtain ⟨⟨qT0, qT1, qT2⟩, ⟨fT0, fT1, fT2⟩, zT⟩ := HT.out
          go_wp2_with fail
          clear qT0 fT0 qT1 fT1 qT2 fT2 zT
          go_roundw
          case rel => exact ⟨j + 1, by rw [HNX.out], by rw [HNX.out], by go_num, by omega, HT.out.below ((Below.refl _ _).alloc (Nat.le_refl _) _), Below.alloc HB.out HB.out.size _⟩
          case measure =>
            show 4 - ((j : Int) + 1).toNat < 4 - ((j : Int)).toNat
            omega
        | some q =>
          obtain ⟨⟨X, Y, Z⟩, q⟩ := q
          have hq := endF_le _ _ _ ho
          simp only at hq
          rw [ho] at HE hnx
          simp only [eE, eN, eB] at HE hnx
          by_cases hl : l < 0
          · rw [if_pos (.inl hl)] at hnx
            have HNX := Lib.hid hnx
            clear hnx ho hp
            obtain ⟨⟨qT0, qT1, qT2⟩, ⟨fT0, fT1, fT2⟩, zT⟩ := HT.out
            go_wp2_with fail
            go_at_call 67
            refine (HE.out _).mono ?_
            rintro e w21 ⟨rfl, hb⟩
            clear qT0 fT0 qT1 fT1 qT2 fT2 zT
            have HT := Lib.hid (HT.out.below hb)
            have HB := Lib.hid (below_after hb HB.out)
            clear hb
            obtain ⟨⟨qT0, qT1, qT2⟩, ⟨fT0, fT1, fT2⟩, zT⟩ := HT.out
            go_wp2_with fail
            clear qT0 fT0 qT1 fT1 qT2 fT2 zT
            go_roundw
            case rel => exact ⟨j + 1, by rw [HNX.out], by rw [HNX.out], by go_num, by omega, HT.out.below ((Below.refl _ _).alloc (Nat.le_refl _) _), Below.alloc HB.out HB.out.size _⟩
            case measure =>
              show 4 - ((j : Int) + 1).toNat < 4 - ((j : Int)).toNat
              omega
          · by_cases hl2 : (q : Int) < l
            · rw [if_pos (.inr hl2)] at hnx
              have HNX := Lib.hid hnx
              clear hnx ho hp
              obtain ⟨⟨qT0, qT1, qT2⟩, ⟨fT0, fT1, fT2⟩, zT⟩ := HT.out
              go_wp2_with fail
              go_at_call 67
              refine (HE.out _).mono ?_
              rintro e w21 ⟨rfl, hb⟩
              clear qT0 fT0 qT1 fT1 qT2 fT2 zT
              have HT := Lib.hid (HT.out.below hb)
              have HB := Lib.hid (below_after hb HB.out)
              clear hb
              obtain ⟨⟨qT0, qT1, qT2⟩, ⟨fT0, fT1, fT2⟩, zT⟩ := HT.out
              go_wp2_with fail
              clear qT0 fT0 qT1 fT1 qT2 fT2 zT
              go_roundw
              case rel => exact ⟨j + 1, by rw [HNX.out], by rw [HNX.out], by go_num, by omega, HT.out.below ((Below.refl _ _).alloc (Nat.le_refl _) _), Below.alloc HB.out HB.out.size _⟩
              case measure =>
                show 4 - ((j : Int) + 1).toNat < 4 - ((j : Int)).toNat
                omega
            · rw [if_neg (by omega)] at hnx
              have HNX := Lib.hid hnx
              clear hnx ho hp
              obtain ⟨⟨qT0, qT1, qT2⟩, ⟨fT0, fT1, fT2⟩, zT⟩ := HT.out
              go_wp2_with fail
              go_at_call 67
              refine (HE.out _).mono ?_
              rintro e w21 ⟨rfl, hb⟩
              clear qT0 fT0 qT1 fT1 qT2 fT2 zT
              have HT := Lib.hid (HT.out.below hb)
              have HB := Lib.hid (below_after hb HB.out)
              clear hb
              obtain ⟨⟨qT0, qT1, qT2⟩, ⟨fT0, fT1, fT2⟩, zT⟩ := HT.out
              go_wp2_with fail
              clear qT0 fT0 qT1 fT1 qT2 fT2 zT
              go_roundw
              case rel => exact ⟨j + 1, by rw [HNX.out], by rw [HNX.out], by go_num, by omega, HT.out.below ((Below.refl _ _).alloc (Nat.le_refl _) _), Below.alloc HB.out HB.out.size _⟩
              case measure =>
                show 4 - ((j : Int) + 1).toNat < 4 - ((j : Int)).toNat
                omega
      · have h4 : j = 4 := by omega
        subst h4
        rw [show ((4 : Nat) : Int) = 4 from rfl]
        have HRES : Hid (shV a b c = (if (shS a b c 4).2 < 0 then 0 else (shS a b c 4).1) ∧ shK a b c = (if (shS a b c 4).2 < 0 then 3 else 0)) := by
          unfold shV shK
          rw [if_pos HS.out, if_pos HS.out]
          exact ⟨rfl, rfl⟩
        obtain ⟨⟨p, l⟩, hp⟩ : ∃ p, shS a b c 4 = p := ⟨_, rfl⟩
        rw [hp] at HRES hbd ⊢
        simp only at HRES hbd ⊢
        by_cases hl : l < 0
        · simp only [hl, if_true] at HRES
          clear hp
          obtain ⟨⟨qT0, qT1, qT2⟩, _, zT⟩ := HT.out
          go_wp2_with fail
          refine bodyPost_ret (v := .tuple #[.int .i64 0, .int .i64 3]) (by simp (maxDischargeDepth := 8) [results, Try.results52, go_sem, *]) rfl ?_
          exact ⟨by rw [HRES.out.1, HRES.out.2], by first | exact HB.out | (have h := HB.out; rw [HG.out] at h; exact h)⟩
        · simp only [hl, if_false] at HRES
          have hl0 : 0 ≤ l := by omega
          clear hp
          obtain ⟨⟨qT0, qT1, qT2⟩, _, zT⟩ := HT.out
          go_wp2_with fail
          refine bodyPost_ret (v := .tuple #[.int .i64 p, .int .i64 0]) (by simp (maxDischargeDepth := 8) [results, Try.results52, go_sem, *]) rfl ?_
          exact ⟨by rw [HRES.out.1, HRES.out.2], by first | exact HB.out | (have h := HB.out; rw [HG.out] at h; exact h)⟩
set_option maxHeartbeats 3200000 in
theorem impl_ShortestRule_any (a b c : Int) (w : World) : Calls Try.prog 53 #[.agg #[.int .i64 a, .int .i64 b, .int .i64 c]] w fun e w' => e = .returned (.tuple #[.int .i64 (shV a b c), .int .i64 (shK a b c)]) ∧ Below w.heap.size w w' := by
  have HC := Lib.hid (fun w => isSorted_any a b c w)
  cases hs : isSt a b c
  · rw [hs] at HC
    rw [show shV a b c = 0 from by unfold shV; rw [if_neg (by rw [hs]; decide)], show shK a b c = 1 from by unfold shK; rw [if_neg (by rw [hs]; decide)]]
    clear hs
    obtain ⟨GT, hG⟩ : ∃ G, w.heap.size = G := ⟨_, rfl⟩
    have HG := Lib.hid hG
    go_enter Try.func53, Try.ntmps53
    go_upto_region 1 with fail
    obtain ⟨w0, hw0⟩ : ∃ w0, w0 = (w.alloc (.cells #[.int .i64 a, .int .i64 b, .int .i64 c] 24)) := ⟨_, rfl⟩
    rw [← hw0]
    have HT : Hid (Bk3 w0 GT a b c) := by
      have h := (bk3_new w a b c 24).below (W' := (w.alloc (.cells #[.int .i64 a, .int .i64 b, .int .i64 c] 24))) (by (repeat' (first | (with_reducible exact Below.refl _ _) | (with_reducible refine Below.alloc ?_ ?_ _) | (with_reducible refine Below.setCell ?_ ?_ _) | (with_reducible refine Below.drew ?_) | (with_reducible refine below_drewN ?_ _) | (with_reducible assumption) | (with_reducible refine below_after (by with_reducible assumption) ?_) | go_size)))
      (try simp only [World.size_alloc] at h)
      rw [hG] at h
      rw [hw0]; exact h
    have HB : Hid (Below w.heap.size w w0) := by show Below w.heap.size w w0; rw [hw0]; (repeat' (first | (with_reducible exact Below.refl _ _) | (with_reducible refine Below.alloc ?_ ?_ _) | (with_reducible refine Below.setCell ?_ ?_ _) | (with_reducible refine Below.drew ?_) | (with_reducible refine below_drewN ?_ _) | (with_reducible assumption) | (with_reducible refine below_after (by with_reducible assumption) ?_) | go_size))
    clear hw0
    have le_T : w.heap.size ≤ GT := by omega
    obtain ⟨⟨qT0, qT1, qT2⟩, ⟨fT0, fT1, fT2⟩, zT⟩ := HT.out
    go_wp2_with fail
    go_at_call 85
    refine (HC.out _).mono ?_
    rintro e w1 ⟨rfl, hb⟩
    clear qT0 fT0 qT1 fT1 qT2 fT2 zT
    have HT := Lib.hid (HT.out.below hb)
    have HB := Lib.hid (below_after hb HB.out)
    clear hb
    obtain ⟨⟨qT0, qT1, qT2⟩, ⟨fT0, fT1, fT2⟩, zT⟩ := HT.out
    go_wp2_with fail
    refine bodyPost_ret (v := .tuple #[.int .i64 0, .int .i64 1]) (by simp (maxDischargeDepth := 8) [results, Try.results53, go_sem, *]) rfl ?_
    have hb := HB.out
    exact ⟨rfl, by (repeat' (first | (with_reducible exact Below.refl _ _) | (with_reducible refine Below.alloc ?_ ?_ _) | (with_reducible refine Below.setCell ?_ ?_ _) | (with_reducible refine Below.drew ?_) | (with_reducible refine below_drewN ?_ _) | (with_reducible assumption) | (with_reducible refine below_after (by with_reducible assumption) ?_) | go_size))⟩
  · rw [hs] at HC
    have HS := Lib.hid hs
    clear hs
    obtain ⟨GT, hG⟩ : ∃ G, w.heap.size = G := ⟨_, rfl⟩
    have HG := Lib.hid hG
    go_enter Try.func53, Try.ntmps53
    go_upto_region 1 with fail
    obtain ⟨w0, hw0⟩ : ∃ w0, w0 = (w.alloc (.cells #[.int .i64 a, .int .i64 b, .int .i64 c] 24)) := ⟨_, rfl⟩
    rw [← hw0]
    have HT : Hid (Bk3 w0 GT a b c) := by
      have h := (bk3_new w a b c 24).below (W' := (w.alloc (.cells #[.int .i64 a, .int .i64 b, .int .i64 c] 24))) (by (repeat' (first | (with_reducible exact Below.refl _ _) | (with_reducible refine Below.alloc ?_ ?_ _) | (with_reducible refine Below.setCell ?_ ?_ _) | (with_reducible refine Below.drew ?_) | (with_reducible refine below_drewN ?_ _) | (with_reducible assumption) | (with_reducible refine below_after (by with_reducible assumption) ?_) | go_size)))
      (try simp only [World.size_alloc] at h)
      rw [hG] at h
      rw [hw0]; exact h
    have HB : Hid (Below w.heap.size w w0) := by show Below w.heap.size w w0; rw [hw0]; (repeat' (first | (with_reducible exact Below.refl _ _) | (with_reducible refine Below.alloc ?_ ?_ _) | (with_reducible refine Below.setCell ?_ ?_ _) | (with_reducible refine Below.drew ?_) | (with_reducible refine below_drewN ?_ _) | (with_reducible assumption) | (with_reducible refine below_after (by with_reducible assumption) ?_) | go_size))
    clear hw0
    have le_T : w.heap.size ≤ GT := by omega
    obtain ⟨⟨qT0, qT1, qT2⟩, ⟨fT0, fT1, fT2⟩, zT⟩ := HT.out
    go_wp2_with fail
    go_at_call 85
    refine (HC.out _).mono ?_
    rintro e w1 ⟨rfl, hb⟩
    clear qT0 fT0 qT1 fT1 qT2 fT2 zT
    have HT := Lib.hid (HT.out.below hb)
    have HB := Lib.hid (below_after hb HB.out)
    clear hb
    obtain ⟨⟨qT0, qT1, qT2⟩, ⟨fT0, fT1, fT2⟩, zT⟩ := HT.out
    go_wp2_with fail
    clear qT0 fT0 qT1 fT1 qT2 fT2 zT
    have HLE := Lib.hid le_T
    go_loopw [4, 5, 12] (fun y4 y5 y12 wr => ∃ j : Nat, y4 = .int .i64 (shS a b c j).1 ∧ y5 = .int .i64 (lsI (shS a b c j).2) ∧ y12 = .int .i64 (j : Int) ∧ j ≤ 4 ∧ Bk3 wr GT a b c ∧ Below w.heap.size w wr) (fun _ _ y12 _ => 4 - (intOf y12).toNat)
    case atStart => exact ⟨0, rfl, rfl, rfl, by omega, HT.out, HB.out⟩
    case round =>
      obtain ⟨j, rfl, rfl, rfl, hj, hT, hbel⟩ := hrel
      clear HT HB
      have HT := Lib.hid hT
      have HB := Lib.hid hbel
      clear hT hbel
      have le_T := HLE.out
      have hbd := shS_bd a b c j
      by_cases hj4 : j < 4
      · have HE := Lib.hid (fun w => impl_LengthOfRun_any a b c (j : Int) w)
        have hsc : scd a b c (j : Int) = 0 := by unfold scd; rw [if_pos HS.out, if_pos (by omega)]
        have hln : lnV a b c (j : Int) = eN (endF j 300 (a, b, c)) := by unfold lnV; rw [if_pos hsc]; rfl
        have hlk : lnK a b c (j : Int) = if eB (endF j 300 (a, b, c)) = true then 0 else 3 := by unfold lnK; rw [if_pos hsc]; rfl
        rw [hln, hlk] at HE
        have hnx : shS a b c (j + 1) = (match endF j 300 (a, b, c) with | some q => if (shS a b c j).2 < 0 ∨ (q.2 : Int) < (shS a b c j).2 then ((j : Int), (q.2 : Int)) else shS a b c j | none => shS a b c j) := rfl
        obtain ⟨⟨p, l⟩, hp⟩ : ∃ p, shS a b c j = p := ⟨_, rfl⟩
        rw [hp] at hnx hbd ⊢
        simp only at hnx hbd ⊢
        have HLS : Hid (lsI l = if l < 0 then 301 else l) := by show _ = _; rfl
        obtain ⟨ls, hls⟩ : ∃ ls, lsI l = ls := ⟨_, rfl⟩
        rw [hls] at HLS ⊢
        cases ho : endF j 300 (a, b, c) with
        | none =>
          rw [ho] at HE hnx
          simp only [eE, eN, eB, Bool.false_eq_true, if_false] at HE hnx
          have HNX : Hid (shS a b c (j + 1) = (p, l) ∧ lsI l = ls) := ⟨hnx, hls⟩
          clear hnx ho hp hls hln hlk hsc
          obtain ⟨⟨qT0, qT1, qT2⟩, ⟨fT0, fT1, fT2⟩, zT⟩ := HT.out
          go_wp2_with fail
          go_at_call 32
          refine (HE.out _).mono ?_
          rintro e w21 ⟨rfl, hb⟩
          clear qT0 fT0 qT1 fT1 qT2 fT2 zT
          have HT := Lib.hid (HT.out.below hb)
          have HB := Lib.hid (below_after hb HB.out)
          clear hb
          obtain ⟨⟨qT0, qT1, qT2⟩, ⟨fT0, fT1, fT2⟩, zT⟩ := HT.out
          go_wp2_with fail
          clear qT0 fT0 qT1 fT1 qT2 fT2 zT
          go_roundw
          case rel => exact ⟨j + 1, by rw [HNX.out.1], by rw [HNX.out.1]; exact congrArg (Value.int .i64) HNX.out.2.symm, by go_num, by omega, HT.out, HB.out⟩
          case measure =>
            show 4 - ((j : Int) + 1).toNat < 4 - ((j : Int)).toNat
            omega
        | some q =>
          obtain ⟨⟨X, Y, Z⟩, q⟩ := q
          have hq := endF_le _ _ _ ho
          simp only at hq
          rw [ho] at HE hnx
          simp only [eE, eN, eB, if_true] at HE hnx
          have hq2 : lsI (q : Int) = (q : Int) := by unfold lsI; rw [if_neg (by omega)]
          by_cases hl : (q : Int) < ls
          · have hc : l < 0 ∨ (q : Int) < l := by
              have h := HLS.out
              by_cases h0 : l < 0
              · exact .inl h0
              · rw [if_neg h0] at h; omega
            rw [if_pos hc] at hnx
            have HNX : Hid (shS a b c (j + 1) = ((j : Int), (q : Int)) ∧ lsI (q : Int) = (q : Int)) := ⟨hnx, hq2⟩
            clear hnx ho hp hls hln hlk hsc hc hq2
            obtain ⟨⟨qT0, qT1, qT2⟩, ⟨fT0, fT1, fT2⟩, zT⟩ := HT.out
            go_wp2_with fail
            go_at_call 32
            refine (HE.out _).mono ?_
            rintro e w21 ⟨rfl, hb⟩
            clear qT0 fT0 qT1 fT1 qT2 fT2 zT
            have HT := Lib.hid (HT.out.below hb)
            have HB := Lib.hid (below_after hb HB.out)
            clear hb
            obtain ⟨⟨qT0, qT1, qT2⟩, ⟨fT0, fT1, fT2⟩, zT⟩ := HT.out
            go_wp2_with fail
            clear qT0 fT0 qT1 fT1 qT2 fT2 zT
            go_roundw
            case rel => exact ⟨j + 1, by rw [HNX.out.1], by rw [HNX.out.1]; exact congrArg (Value.int .i64) HNX.out.2.symm, by go_num, by omega, HT.out, HB.out⟩
            case measure =>
              show 4 - ((j : Int) + 1).toNat < 4 - ((j : Int)).toNat
              omega
          · have hc : ¬ (l < 0 ∨ (q : Int) < l) := by
              have h := HLS.out
              rintro (h0 | h0)
              · rw [if_pos h0] at h; omega
              · by_cases h1 : l < 0
                · rw [if_pos h1] at h; omega
                · rw [if_neg h1] at h; omega
            rw [if_neg hc] at hnx
            have HNX : Hid (shS a b c (j + 1) = (p, l) ∧ lsI l = ls) := ⟨hnx, hls⟩
            clear hnx ho hp hls hln hlk hsc hc hq2
            obtain ⟨⟨qT0, qT1, qT2⟩, ⟨fT0, fT1, fT2⟩, zT⟩ := HT.out
            go_wp2_with fail
            go_at_call 32
            refine (HE.out _).mono ?_
            rintro e w21 ⟨rfl, hb⟩
            clear qT0 fT0 qT1 fT1 qT2 fT2 zT
            have HT := Lib.hid (HT.out.below hb)
            have HB := Lib.hid (below_after hb HB.out)
            clear hb
            obtain ⟨⟨qT0, qT1, qT2⟩, ⟨fT0, fT1, fT2⟩, zT⟩ := HT.out
            go_wp2_with fail
            clear qT0 fT0 qT1 fT1 qT2 fT2 zT
            go_roundw
            case rel => exact ⟨j + 1, by rw [HNX.out.1], by rw [HNX.out.1]; exact congrArg (Value.int .i64) HNX.out.2.symm, by go_num, by omega, HT.out, HB.out⟩
            case measure =>
              show 4 - ((j : Int) + 1).toNat < 4 - ((j : Int)).toNat
              omega
      · have h4 : j = 4 := by omega
        subst h4
        rw [show ((4 : Nat) : Int) = 4 from rfl]
        have HRES : Hid (shV a b c = (if (shS a b c 4).2 < 0 then 0 else (shS a b c 4).1) ∧ shK a b c = (if (shS a b c 4).2 < 0 then 3 else 0)) := by
          unfold shV shK
          rw [if_pos HS.out, if_pos HS.out]
          exact ⟨rfl, rfl⟩
        obtain ⟨⟨p, l⟩, hp⟩ : ∃ p, shS a b c 4 = p := ⟨_, rfl⟩
        rw [hp] at HRES hbd ⊢
        simp only at HRES hbd ⊢
        by_cases hl : l < 0
        · simp only [hl, if_true] at HRES
          rw [show lsI l = 301 from by unfold lsI; rw [if_pos hl]]
          clear hp
          obtain ⟨⟨qT0, qT1, qT2⟩, _, zT⟩ := HT.out
          go_wp2_with fail
          refine bodyPost_ret (v := .tuple #[.int .i64 0, .int .i64 3]) (by simp (maxDischargeDepth := 8) [results, Try.results53, go_sem, *]) rfl ?_
          exact ⟨by rw [HRES.out.1, HRES.out.2], by first | exact HB.out | (have h := HB.out; rw [HG.out] at h; exact h)⟩
        · simp only [hl, if_false] at HRES
          rw [show lsI l = l from by unfold lsI; rw [if_neg hl]]
          have hl0 : l ≤ 300 := by omega
          clear hp
          obtain ⟨⟨qT0, qT1, qT2⟩, _, zT⟩ := HT.out
          go_wp2_with fail
          refine bodyPost_ret (v := .tuple #[.int .i64 p, .int .i64 0]) (by simp (maxDischargeDepth := 8) [results, Try.results53, go_sem, *]) rfl ?_
          exact ⟨by rw [HRES.out.1, HRES.out.2], by first | exact HB.out | (have h := HB.out; rw [HG.out] at h; exact h)⟩
end Go.Proofs.Ytbgifgfegndlkaa
