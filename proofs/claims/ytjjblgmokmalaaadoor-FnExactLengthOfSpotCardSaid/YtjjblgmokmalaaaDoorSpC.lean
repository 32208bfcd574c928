/-
  Cones and tetrahedra in the model (own work).
-/
import Derived.Test.YtjjblgmokmalaaaDoorSpS
namespace Go.Proofs.YtjjblgmokmalaaaDoor
open Go.ChangeShapes Go.WideShapes Go.ChangeAt Go.RowKit
set_option linter.unusedVariables false
set_option maxRecDepth 100000
set_option linter.unusedSimpArgs false
set_option maxRecDepth 100000

/-- A cone. -/
def isCo (c0 c1 c2 c3 c4 c5 c6 c7 c8 : Int) : Bool := isSp c0 c1 c2 && isSp c3 c4 c5 && isSp c6 c7 c8 && !((detV c0 c1 c2 c3 c4 c5 c6 c7 c8) == 0)
theorem abs0 {d : Int} : absI d = 0 ↔ d = 0 := by unfold absI; omega
def bok (b : Bool) : Int := bif b then 0 else 1
def bvl (b : Bool) (x : Int) : Int := bif b then x else 0
def bls (b : Bool) (xs : List Int) : List Int := bif b then xs else []
theorem isCo_parts {c0 c1 c2 c3 c4 c5 c6 c7 c8 : Int} (h : isCo c0 c1 c2 c3 c4 c5 c6 c7 c8 = true) : W3 20 c0 c1 c2 ∧ W3 20 c3 c4 c5 ∧ W3 20 c6 c7 c8 ∧ (detV c0 c1 c2 c3 c4 c5 c6 c7 c8) ≠ 0 := by
  simp only [isCo, Bool.and_eq_true, Bool.not_eq_true', beq_eq_false_iff_ne] at h
  exact ⟨isSp_W3 h.1.1.1, isSp_W3 h.1.1.2, isSp_W3 h.1.2, h.2⟩
/-- The coordinates of a spot. -/
def co0 (c0 c1 c2 c3 c4 c5 c6 c7 c8 a0 a1 a2 : Int) : Int := sgV (detV c0 c1 c2 c3 c4 c5 c6 c7 c8) * detV a0 a1 a2 c3 c4 c5 c6 c7 c8
def co1 (c0 c1 c2 c3 c4 c5 c6 c7 c8 a0 a1 a2 : Int) : Int := sgV (detV c0 c1 c2 c3 c4 c5 c6 c7 c8) * detV a0 a1 a2 c6 c7 c8 c0 c1 c2
def co2 (c0 c1 c2 c3 c4 c5 c6 c7 c8 a0 a1 a2 : Int) : Int := sgV (detV c0 c1 c2 c3 c4 c5 c6 c7 c8) * detV a0 a1 a2 c0 c1 c2 c3 c4 c5
/-- The volume of a tetrahedron. -/
def voV (t0 t1 t2 t3 t4 t5 t6 t7 t8 t9 t10 t11 : Int) : Int := absI (detV (t3 - t0) (t4 - t1) (t5 - t2) (t6 - t0) (t7 - t1) (t8 - t2) (t9 - t0) (t10 - t1) (t11 - t2))
def isTe (t0 t1 t2 t3 t4 t5 t6 t7 t8 t9 t10 t11 : Int) : Bool := isSp t0 t1 t2 && isSp t3 t4 t5 && isSp t6 t7 t8 && isSp t9 t10 t11 && !(voV t0 t1 t2 t3 t4 t5 t6 t7 t8 t9 t10 t11 == 0)
set_option maxHeartbeats 800000 in
theorem l08Is_any (c0 c1 c2 c3 c4 c5 c6 c7 c8 : Int) (w : World) :
    Calls Tryd.prog 68 #[.agg #[.int .i64 c0, .int .i64 c1, .int .i64 c2, .int .i64 c3, .int .i64 c4, .int .i64 c5, .int .i64 c6, .int .i64 c7, .int .i64 c8]] w fun e w' => e = .returned (.bool (isCo c0 c1 c2 c3 c4 c5 c6 c7 c8)) ∧ Below w.heap.size w w' := by
  cases k0 : isSp c0 c1 c2
  · skip
    have HK0 := Lib.hid k0
    have HS0 : Hid (∀ w, Calls Tryd.prog 45 #[.agg #[.int .i64 c0, .int .i64 c1, .int .i64 c2]] w fun e w' => e = .returned (.bool false) ∧ Below w.heap.size w w') := fun w => by have := l08Spot_any c0 c1 c2 w; rwa [k0] at this
    clear k0
    obtain ⟨GC, hG⟩ : ∃ G, w.heap.size = G := ⟨_, rfl⟩
    have HG := Lib.hid hG
    go_enter Tryd.func68, Tryd.ntmps68
    go_upto_region 1 with fail
    obtain ⟨w0, hw0⟩ : ∃ w0, w0 = (w.alloc (.cells #[.int .i64 c0, .int .i64 c1, .int .i64 c2, .int .i64 c3, .int .i64 c4, .int .i64 c5, .int .i64 c6, .int .i64 c7, .int .i64 c8] 39)) := ⟨_, rfl⟩
    rw [← hw0]
    have HC : Hid (Bk9 w0 GC c0 c1 c2 c3 c4 c5 c6 c7 c8) := by
      have h := (bk9_new w c0 c1 c2 c3 c4 c5 c6 c7 c8 39).below (W' := (w.alloc (.cells #[.int .i64 c0, .int .i64 c1, .int .i64 c2, .int .i64 c3, .int .i64 c4, .int .i64 c5, .int .i64 c6, .int .i64 c7, .int .i64 c8] 39))) (by (repeat' (first | (with_reducible exact Below.refl _ _) | (with_reducible refine Below.alloc ?_ ?_ _) | (with_reducible refine Below.setCell ?_ ?_ _) | (with_reducible refine Below.drew ?_) | (with_reducible refine below_drewN ?_ _) | (with_reducible assumption) | (with_reducible refine below_after (by with_reducible assumption) ?_) | go_size)))
      (try simp only [World.size_alloc] at h)
      rw [hG] at h
      rw [hw0]; exact h
    have HB : Hid (Below w.heap.size w w0) := by show Below w.heap.size w w0; rw [hw0]; (repeat' (first | (with_reducible exact Below.refl _ _) | (with_reducible refine Below.alloc ?_ ?_ _) | (with_reducible refine Below.setCell ?_ ?_ _) | (with_reducible refine Below.drew ?_) | (with_reducible refine below_drewN ?_ _) | (with_reducible assumption) | (with_reducible refine below_after (by with_reducible assumption) ?_) | go_size))
    clear hw0
    have le_C : w.heap.size ≤ GC := by omega
    obtain ⟨⟨qC0, qC1, qC2, qC3, qC4, qC5, qC6, qC7, qC8⟩, ⟨fC0, fC1, fC2, fC3, fC4, fC5, fC6, fC7, fC8⟩, zC⟩ := HC.out
    go_wp2_with fail
    go_at_call 45
    refine (HS0.out _).mono ?_
    rintro e w1 ⟨rfl, hb⟩
    clear qC0 fC0 qC1 fC1 qC2 fC2 qC3 fC3 qC4 fC4 qC5 fC5 qC6 fC6 qC7 fC7 qC8 fC8 zC
    have HC := Lib.hid (HC.out.below hb)
    have HB := Lib.hid (below_after hb HB.out)
    clear hb
    obtain ⟨⟨qC0, qC1, qC2, qC3, qC4, qC5, qC6, qC7, qC8⟩, ⟨fC0, fC1, fC2, fC3, fC4, fC5, fC6, fC7, fC8⟩, zC⟩ := HC.out
    go_wp2_with fail
    refine bodyPost_ret (v := .bool false) (by simp (maxDischargeDepth := 8) [results, Tryd.results68, go_sem, *]) rfl ?_
    have hb := HB.out
    exact ⟨by simp [isCo, HK0.out], by (repeat' (first | (with_reducible exact Below.refl _ _) | (with_reducible refine Below.alloc ?_ ?_ _) | (with_reducible refine Below.setCell ?_ ?_ _) | (with_reducible refine Below.drew ?_) | (with_reducible refine below_drewN ?_ _) | (with_reducible assumption) | (with_reducible refine below_after (by with_reducible assumption) ?_) | go_size))⟩
  · skip
    have HK0 := Lib.hid k0
    have HS0 : Hid (∀ w, Calls Tryd.prog 45 #[.agg #[.int .i64 c0, .int .i64 c1, .int .i64 c2]] w fun e w' => e = .returned (.bool true) ∧ Below w.heap.size w w') := fun w => by have := l08Spot_any c0 c1 c2 w; rwa [k0] at this
    clear k0
    cases k1 : isSp c3 c4 c5
    · skip
      have HK1 := Lib.hid k1
      have HS1 : Hid (∀ w, Calls Tryd.prog 45 #[.agg #[.int .i64 c3, .int .i64 c4, .int .i64 c5]] w fun e w' => e = .returned (.bool false) ∧ Below w.heap.size w w') := fun w => by have := l08Spot_any c3 c4 c5 w; rwa [k1] at this
      clear k1
      obtain ⟨GC, hG⟩ : ∃ G, w.heap.size = G := ⟨_, rfl⟩
      have HG := Lib.hid hG
      go_enter Tryd.func68, Tryd.ntmps68
      go_upto_region 1 with fail
      obtain ⟨w0, hw0⟩ : ∃ w0, w0 = (w.alloc (.cells #[.int .i64 c0, .int .i64 c1, .int .i64 c2, .int .i64 c3, .int .i64 c4, .int .i64 c5, .int .i64 c6, .int .i64 c7, .int .i64 c8] 39)) := ⟨_, rfl⟩
      rw [← hw0]
      have HC : Hid (Bk9 w0 GC c0 c1 c2 c3 c4 c5 c6 c7 c8) := by
        have h := (bk9_new w c0 c1 c2 c3 c4 c5 c6 c7 c8 39).below (W' := (w.alloc (.cells #[.int .i64 c0, .int .i64 c1, .int .i64 c2, .int .i64 c3, .int .i64 c4, .int .i64 c5, .int .i64 c6, .int .i64 c7, .int .i64 c8] 39))) (by (repeat' (first | (with_reducible exact Below.refl _ _) | (with_reducible refine Below.alloc ?_ ?_ _) | (with_reducible refine Below.setCell ?_ ?_ _) | (with_reducible refine Below.drew ?_) | (with_reducible refine below_drewN ?_ _) | (with_reducible assumption) | (with_reducible refine below_after (by with_reducible assumption) ?_) | go_size)))
        (try simp only [World.size_alloc] at h)
        rw [hG] at h
        rw [hw0]; exact h
      have HB : Hid (Below w.heap.size w w0) := by show Below w.heap.size w w0; rw [hw0]; (repeat' (first | (with_reducible exact Below.refl _ _) | (with_reducible refine Below.alloc ?_ ?_ _) | (with_reducible refine Below.setCell ?_ ?_ _) | (with_reducible refine Below.drew ?_) | (with_reducible refine below_drewN ?_ _) | (with_reducible assumption) | (with_reducible refine below_after (by with_reducible assumption) ?_) | go_size))
      clear hw0
      have le_C : w.heap.size ≤ GC := by omega
      obtain ⟨⟨qC0, qC1, qC2, qC3, qC4, qC5, qC6, qC7, qC8⟩, ⟨fC0, fC1, fC2, fC3, fC4, fC5, fC6, fC7, fC8⟩, zC⟩ := HC.out
      go_wp2_with fail
      go_at_call 45
      refine (HS0.out _).mono ?_
      rintro e w1 ⟨rfl, hb⟩
      clear qC0 fC0 qC1 fC1 qC2 fC2 qC3 fC3 qC4 fC4 qC5 fC5 qC6 fC6 qC7 fC7 qC8 fC8 zC
      have HC := Lib.hid (HC.out.below hb)
      have HB := Lib.hid (below_after hb HB.out)
      clear hb
      obtain ⟨⟨qC0, qC1, qC2, qC3, qC4, qC5, qC6, qC7, qC8⟩, ⟨fC0, fC1, fC2, fC3, fC4, fC5, fC6, fC7, fC8⟩, zC⟩ := HC.out
      go_wp2_with fail
      go_at_call 45
      refine (HS1.out _).mono ?_
      rintro e w2 ⟨rfl, hb⟩
      clear qC0 fC0 qC1 fC1 qC2 fC2 qC3 fC3 qC4 fC4 qC5 fC5 qC6 fC6 qC7 fC7 qC8 fC8 zC
      have HC := Lib.hid (HC.out.below hb)
      have HB := Lib.hid (below_after hb HB.out)
      clear hb
      obtain ⟨⟨qC0, qC1, qC2, qC3, qC4, qC5, qC6, qC7, qC8⟩, ⟨fC0, fC1, fC2, fC3, fC4, fC5, fC6, fC7, fC8⟩, zC⟩ := HC.out
      go_wp2_with fail
      refine bodyPost_ret (v := .bool false) (by simp (maxDischargeDepth := 8) [results, Tryd.results68, go_sem, *]) rfl ?_
      have hb := HB.out
      exact ⟨by simp [isCo, HK0.out, HK1.out], by (repeat' (first | (with_reducible exact Below.refl _ _) | (with_reducible refine Below.alloc ?_ ?_ _) | (with_reducible refine Below.setCell ?_ ?_ _) | (with_reducible refine Below.drew ?_) | (with_reducible refine below_drewN ?_ _) | (with_reducible assumption) | (with_reducible refine below_after (by with_reducible assumption) ?_) | go_size))⟩
    · skip
      have HK1 := Lib.hid k1
      have HS1 : Hid (∀ w, Calls Tryd.prog 45 #[.agg #[.int .i64 c3, .int .i64 c4, .int .i64 c5]] w fun e w' => e = .returned (.bool true) ∧ Below w.heap.size w w') := fun w => by have := l08Spot_any c3 c4 c5 w; rwa [k1] at this
      clear k1
      cases k2 : isSp c6 c7 c8
      · skip
        have HK2 := Lib.hid k2
        have HS2 : Hid (∀ w, Calls Tryd.prog 45 #[.agg #[.int .i64 c6, .int .i64 c7, .int .i64 c8]] w fun e w' => e = .returned (.bool false) ∧ Below w.heap.size w w') := fun w => by have := l08Spot_any c6 c7 c8 w; rwa [k2] at this
        clear k2
        obtain ⟨GC, hG⟩ : ∃ G, w.heap.size = G := ⟨_, rfl⟩
        have HG := Lib.hid hG
        go_enter Tryd.func68, Tryd.ntmps68
        go_upto_region 1 with fail
        obtain ⟨w0, hw0⟩ : ∃ w0, w0 = (w.alloc (.cells #[.int .i64 c0, .int .i64 c1, .int .i64 c2, .int .i64 c3, .int .i64 c4, .int .i64 c5, .int .i64 c6, .int .i64 c7, .int .i64 c8] 39)) := ⟨_, rfl⟩
        rw [← hw0]
        have HC : Hid (Bk9 w0 GC c0 c1 c2 c3 c4 c5 c6 c7 c8) := by
          have h := (bk9_new w c0 c1 c2 c3 c4 c5 c6 c7 c8 39).below (W' := (w.alloc (.cells #[.int .i64 c0, .int .i64 c1, .int .i64 c2, .int .i64 c3, .int .i64 c4, .int .i64 c5, .int .i64 c6, .int .i64 c7, .int .i64 c8] 39))) (by (repeat' (first | (with_reducible exact Below.refl _ _) | (with_reducible refine Below.alloc ?_ ?_ _) | (with_reducible refine Below.setCell ?_ ?_ _) | (with_reducible refine Below.drew ?_) | (with_reducible refine below_drewN ?_ _) | (with_reducible assumption) | (with_reducible refine below_after (by with_reducible assumption) ?_) | go_size)))
          (try simp only [World.size_alloc] at h)
          rw [hG] at h
          rw [hw0]; exact h
        have HB : Hid (Below w.heap.size w w0) := by show Below w.heap.size w w0; rw [hw0]; (repeat' (first | (with_reducible exact Below.refl _ _) | (with_reducible refine Below.alloc ?_ ?_ _) | (with_reducible refine Below.setCell ?_ ?_ _) | (with_reducible refine Below.drew ?_) | (with_reducible refine below_drewN ?_ _) | (with_reducible assumption) | (with_reducible refine below_after (by with_reducible assumption) ?_) | go_size))
        clear hw0
        have le_C : w.heap.size ≤ GC := by omega
        obtain ⟨⟨qC0, qC1, qC2, qC3, qC4, qC5, qC6, qC7, qC8⟩, ⟨fC0, fC1, fC2, fC3, fC4, fC5, fC6, fC7, fC8⟩, zC⟩ := HC.out
        go_wp2_with fail
        go_at_call 45
        refine (HS0.out _).mono ?_
        rintro e w1 ⟨rfl, hb⟩
        clear qC0 fC0 qC1 fC1 qC2 fC2 qC3 fC3 qC4 fC4 qC5 fC5 qC6 fC6 qC7 fC7 qC8 fC8 zC
        have HC := Lib.hid (HC.out.below hb)
        have HB := Lib.hid (below_after hb HB.out)
        clear hb
        obtain ⟨⟨qC0, qC1, qC2, qC3, qC4, qC5, qC6, qC7, qC8⟩, ⟨fC0, fC1, fC2, fC3, fC4, fC5, fC6, fC7, fC8⟩, zC⟩ := HC.out
        go_wp2_with fail
        go_at_call 45
        refine (HS1.out _).mono ?_
        rintro e w2 ⟨rfl, hb⟩
        clear qC0 fC0 qC1 fC1 qC2 fC2 qC3 fC3 qC4 fC4 qC5 fC5 qC6 fC6 qC7 fC7 qC8 fC8 zC
        have HC := Lib.hid (HC.out.below hb)
        have HB := Lib.hid (below_after hb HB.out)
        clear hb
        obtain ⟨⟨qC0, qC1, qC2, qC3, qC4, qC5, qC6, qC7, qC8⟩, ⟨fC0, fC1, fC2, fC3, fC4, fC5, fC6, fC7, fC8⟩, zC⟩ := HC.out
        go_wp2_with fail
        go_at_call 45
        refine (HS2.out _).mono ?_
        rintro e w3 ⟨rfl, hb⟩
        clear qC0 fC0 qC1 fC1 qC2 fC2 qC3 fC3 qC4 fC4 qC5 fC5 qC6 fC6 qC7 fC7 qC8 fC8 zC
        have HC := Lib.hid (HC.out.below hb)
        have HB := Lib.hid (below_after hb HB.out)
        clear hb
        obtain ⟨⟨qC0, qC1, qC2, qC3, qC4, qC5, qC6, qC7, qC8⟩, ⟨fC0, fC1, fC2, fC3, fC4, fC5, fC6, fC7, fC8⟩, zC⟩ := HC.out
        go_wp2_with fail
        refine bodyPost_ret (v := .bool false) (by simp (maxDischargeDepth := 8) [results, Tryd.results68, go_sem, *]) rfl ?_
        have hb := HB.out
        exact ⟨by simp [isCo, HK0.out, HK1.out, HK2.out], by (repeat' (first | (with_reducible exact Below.refl _ _) | (with_reducible refine Below.alloc ?_ ?_ _) | (with_reducible refine Below.setCell ?_ ?_ _) | (with_reducible refine Below.drew ?_) | (with_reducible refine below_drewN ?_ _) | (with_reducible assumption) | (with_reducible refine below_after (by with_reducible assumption) ?_) | go_size))⟩
      · skip
        have HK2 := Lib.hid k2
        have HS2 : Hid (∀ w, Calls Tryd.prog 45 #[.agg #[.int .i64 c6, .int .i64 c7, .int .i64 c8]] w fun e w' => e = .returned (.bool true) ∧ Below w.heap.size w w') := fun w => by have := l08Spot_any c6 c7 c8 w; rwa [k2] at this
        clear k2
        obtain ⟨S, hS⟩ : ∃ S, absI (detV c0 c1 c2 c3 c4 c5 c6 c7 c8) = S := ⟨_, rfl⟩
        have HSZ : Hid (∀ w, Calls Tryd.prog 69 #[.agg #[.int .i64 c0, .int .i64 c1, .int .i64 c2, .int .i64 c3, .int .i64 c4, .int .i64 c5, .int .i64 c6, .int .i64 c7, .int .i64 c8]] w fun e w' => e = .returned (.int .i64 S) ∧ Below w.heap.size w w') := fun w => by have := l08Size_any c0 c1 c2 c3 c4 c5 c6 c7 c8 w ((isSp_W3 HK0.out).up (by omega)) ((isSp_W3 HK1.out).up (by omega)) ((isSp_W3 HK2.out).up (by omega)); rwa [hS] at this
        by_cases hz : S = 0
        · subst hz
          have HV : Hid (isCo c0 c1 c2 c3 c4 c5 c6 c7 c8 = false) := by show _ = _; simp [isCo, abs0.1 hS]
          clear hS
          obtain ⟨GC, hG⟩ : ∃ G, w.heap.size = G := ⟨_, rfl⟩
          have HG := Lib.hid hG
          go_enter Tryd.func68, Tryd.ntmps68
          go_upto_region 1 with fail
          obtain ⟨w0, hw0⟩ : ∃ w0, w0 = (w.alloc (.cells #[.int .i64 c0, .int .i64 c1, .int .i64 c2, .int .i64 c3, .int .i64 c4, .int .i64 c5, .int .i64 c6, .int .i64 c7, .int .i64 c8] 39)) := ⟨_, rfl⟩
          rw [← hw0]
          have HC : Hid (Bk9 w0 GC c0 c1 c2 c3 c4 c5 c6 c7 c8) := by
            have h := (bk9_new w c0 c1 c2 c3 c4 c5 c6 c7 c8 39).below (W' := (w.alloc (.cells #[.int .i64 c0, .int .i64 c1, .int .i64 c2, .int .i64 c3, .int .i64 c4, .int .i64 c5, .int .i64 c6, .int .i64 c7, .int .i64 c8] 39))) (by (repeat' (first | (with_reducible exact Below.refl _ _) | (with_reducible refine Below.alloc ?_ ?_ _) | (with_reducible refine Below.setCell ?_ ?_ _) | (with_reducible refine Below.drew ?_) | (with_reducible refine below_drewN ?_ _) | (with_reducible assumption) | (with_reducible refine below_after (by with_reducible assumption) ?_) | go_size)))
            (try simp only [World.size_alloc] at h)
            rw [hG] at h
            rw [hw0]; exact h
          have HB : Hid (Below w.heap.size w w0) := by show Below w.heap.size w w0; rw [hw0]; (repeat' (first | (with_reducible exact Below.refl _ _) | (with_reducible refine Below.alloc ?_ ?_ _) | (with_reducible refine Below.setCell ?_ ?_ _) | (with_reducible refine Below.drew ?_) | (with_reducible refine below_drewN ?_ _) | (with_reducible assumption) | (with_reducible refine below_after (by with_reducible assumption) ?_) | go_size))
          clear hw0
          have le_C : w.heap.size ≤ GC := by omega
          obtain ⟨⟨qC0, qC1, qC2, qC3, qC4, qC5, qC6, qC7, qC8⟩, ⟨fC0, fC1, fC2, fC3, fC4, fC5, fC6, fC7, fC8⟩, zC⟩ := HC.out
          go_wp2_with fail
          go_at_call 45
          refine (HS0.out _).mono ?_
          rintro e w1 ⟨rfl, hb⟩
          clear qC0 fC0 qC1 fC1 qC2 fC2 qC3 fC3 qC4 fC4 qC5 fC5 qC6 fC6 qC7 fC7 qC8 fC8 zC
          have HC := Lib.hid (HC.out.below hb)
          have HB := Lib.hid (below_after hb HB.out)
          clear hb
          obtain ⟨⟨qC0, qC1, qC2, qC3, qC4, qC5, qC6, qC7, qC8⟩, ⟨fC0, fC1, fC2, fC3, fC4, fC5, fC6, fC7, fC8⟩, zC⟩ := HC.out
          go_wp2_with fail
          go_at_call 45
          refine (HS1.out _).mono ?_
          rintro e w2 ⟨rfl, hb⟩
          clear qC0 fC0 qC1 fC1 qC2 fC2 qC3 fC3 qC4 fC4 qC5 fC5 qC6 fC6 qC7 fC7 qC8 fC8 zC
          have HC := Lib.hid (HC.out.below hb)
          have HB := Lib.hid (below_after hb HB.out)
          clear hb
          obtain ⟨⟨qC0, qC1, qC2, qC3, qC4, qC5, qC6, qC7, qC8⟩, ⟨fC0, fC1, fC2, fC3, fC4, fC5, fC6, fC7, fC8⟩, zC⟩ := HC.out
          go_wp2_with fail
          go_at_call 45
          refine (HS2.out _).mono ?_
          rintro e w3 ⟨rfl, hb⟩
          clear qC0 fC0 qC1 fC1 qC2 fC2 qC3 fC3 qC4 fC4 qC5 fC5 qC6 fC6 qC7 fC7 qC8 fC8 zC
          have HC := Lib.hid (HC.out.below hb)
          have HB := Lib.hid (below_after hb HB.out)
          clear hb
          obtain ⟨⟨qC0, qC1, qC2, qC3, qC4, qC5, qC6, qC7, qC8⟩, ⟨fC0, fC1, fC2, fC3, fC4, fC5, fC6, fC7, fC8⟩, zC⟩ := HC.out
          go_wp2_with fail
          go_at_call 69
          refine (HSZ.out _).mono ?_
          rintro e w4 ⟨rfl, hb⟩
          clear qC0 fC0 qC1 fC1 qC2 fC2 qC3 fC3 qC4 fC4 qC5 fC5 qC6 fC6 qC7 fC7 qC8 fC8 zC
          have HC := Lib.hid (HC.out.below hb)
          have HB := Lib.hid (below_after hb HB.out)
          clear hb
          obtain ⟨⟨qC0, qC1, qC2, qC3, qC4, qC5, qC6, qC7, qC8⟩, ⟨fC0, fC1, fC2, fC3, fC4, fC5, fC6, fC7, fC8⟩, zC⟩ := HC.out
          go_wp2_with fail
          refine bodyPost_ret (v := .bool false) (by simp (maxDischargeDepth := 8) [results, Tryd.results68, go_sem, *]) rfl ?_
          have hb := HB.out
          exact ⟨by rw [HV.out], by (repeat' (first | (with_reducible exact Below.refl _ _) | (with_reducible refine Below.alloc ?_ ?_ _) | (with_reducible refine Below.setCell ?_ ?_ _) | (with_reducible refine Below.drew ?_) | (with_reducible refine below_drewN ?_ _) | (with_reducible assumption) | (with_reducible refine below_after (by with_reducible assumption) ?_) | go_size))⟩
        · have HV : Hid (isCo c0 c1 c2 c3 c4 c5 c6 c7 c8 = true) := by
            show _ = _
            have hd : (detV c0 c1 c2 c3 c4 c5 c6 c7 c8) ≠ 0 := fun h => hz (by rw [← hS]; exact abs0.2 h)
            simp [isCo, hd, HK0.out, HK1.out, HK2.out]
          clear hS
          obtain ⟨GC, hG⟩ : ∃ G, w.heap.size = G := ⟨_, rfl⟩
          have HG := Lib.hid hG
          go_enter Tryd.func68, Tryd.ntmps68
          go_upto_region 1 with fail
          obtain ⟨w0, hw0⟩ : ∃ w0, w0 = (w.alloc (.cells #[.int .i64 c0, .int .i64 c1, .int .i64 c2, .int .i64 c3, .int .i64 c4, .int .i64 c5, .int .i64 c6, .int .i64 c7, .int .i64 c8] 39)) := ⟨_, rfl⟩
          rw [← hw0]
          have HC : Hid (Bk9 w0 GC c0 c1 c2 c3 c4 c5 c6 c7 c8) := by
            have h := (bk9_new w c0 c1 c2 c3 c4 c5 c6 c7 c8 39).below (W' := (w.alloc (.cells #[.int .i64 c0, .int .i64 c1, .int .i64 c2, .int .i64 c3, .int .i64 c4, .int .i64 c5, .int .i64 c6, .int .i64 c7, .int .i64 c8] 39))) (by (repeat' (first | (with_reducible exact Below.refl _ _) | (with_reducible refine Below.alloc ?_ ?_ _) | (with_reducible refine Below.setCell ?_ ?_ _) | (with_reducible refine Below.drew ?_) | (with_reducible refine below_drewN ?_ _) | (with_reducible assumption) | (with_reducible refine below_after (by with_reducible assumption) ?_) | go_size)))
            (try simp only [World.size_alloc] at h)
            rw [hG] at h
            rw [hw0]; exact h
          have HB : Hid (Below w.heap.size w w0) := by show Below w.heap.size w w0; rw [hw0]; (repeat' (first | (with_reducible exact Below.refl _ _) | (with_reducible refine Below.alloc ?_ ?_ _) | (with_reducible refine Below.setCell ?_ ?_ _) | (with_reducible refine Below.drew ?_) | (with_reducible refine below_drewN ?_ _) | (with_reducible assumption) | (with_reducible refine below_after (by with_reducible assumption) ?_) | go_size))
          clear hw0
          have le_C : w.heap.size ≤ GC := by omega
          obtain ⟨⟨qC0, qC1, qC2, qC3, qC4, qC5, qC6, qC7, qC8⟩, ⟨fC0, fC1, fC2, fC3, fC4, fC5, fC6, fC7, fC8⟩, zC⟩ := HC.out
          go_wp2_with fail
          go_at_call 45
          refine (HS0.out _).mono ?_
          rintro e w1 ⟨rfl, hb⟩
          clear qC0 fC0 qC1 fC1 qC2 fC2 qC3 fC3 qC4 fC4 qC5 fC5 qC6 fC6 qC7 fC7 qC8 fC8 zC
          have HC := Lib.hid (HC.out.below hb)
          have HB := Lib.hid (below_after hb HB.out)
          clear hb
          obtain ⟨⟨qC0, qC1, qC2, qC3, qC4, qC5, qC6, qC7, qC8⟩, ⟨fC0, fC1, fC2, fC3, fC4, fC5, fC6, fC7, fC8⟩, zC⟩ := HC.out
          go_wp2_with fail
          go_at_call 45
          refine (HS1.out _).mono ?_
          rintro e w2 ⟨rfl, hb⟩
          clear qC0 fC0 qC1 fC1 qC2 fC2 qC3 fC3 qC4 fC4 qC5 fC5 qC6 fC6 qC7 fC7 qC8 fC8 zC
          have HC := Lib.hid (HC.out.below hb)
          have HB := Lib.hid (below_after hb HB.out)
          clear hb
          obtain ⟨⟨qC0, qC1, qC2, qC3, qC4, qC5, qC6, qC7, qC8⟩, ⟨fC0, fC1, fC2, fC3, fC4, fC5, fC6, fC7, fC8⟩, zC⟩ := HC.out
          go_wp2_with fail
          go_at_call 45
          refine (HS2.out _).mono ?_
          rintro e w3 ⟨rfl, hb⟩
          clear qC0 fC0 qC1 fC1 qC2 fC2 qC3 fC3 qC4 fC4 qC5 fC5 qC6 fC6 qC7 fC7 qC8 fC8 zC
          have HC := Lib.hid (HC.out.below hb)
          have HB := Lib.hid (below_after hb HB.out)
          clear hb
          obtain ⟨⟨qC0, qC1, qC2, qC3, qC4, qC5, qC6, qC7, qC8⟩, ⟨fC0, fC1, fC2, fC3, fC4, fC5, fC6, fC7, fC8⟩, zC⟩ := HC.out
          go_wp2_with fail
          go_at_call 69
          refine (HSZ.out _).mono ?_
          rintro e w4 ⟨rfl, hb⟩
          clear qC0 fC0 qC1 fC1 qC2 fC2 qC3 fC3 qC4 fC4 qC5 fC5 qC6 fC6 qC7 fC7 qC8 fC8 zC
          have HC := Lib.hid (HC.out.below hb)
          have HB := Lib.hid (below_after hb HB.out)
          clear hb
          obtain ⟨⟨qC0, qC1, qC2, qC3, qC4, qC5, qC6, qC7, qC8⟩, ⟨fC0, fC1, fC2, fC3, fC4, fC5, fC6, fC7, fC8⟩, zC⟩ := HC.out
          go_wp2_with fail
          refine bodyPost_ret (v := .bool true) (by simp (maxDischargeDepth := 8) [results, Tryd.results68, go_sem, *]) rfl ?_
          have hb := HB.out
          exact ⟨by rw [HV.out], by (repeat' (first | (with_reducible exact Below.refl _ _) | (with_reducible refine Below.alloc ?_ ?_ _) | (with_reducible refine Below.setCell ?_ ?_ _) | (with_reducible refine Below.drew ?_) | (with_reducible refine below_drewN ?_ _) | (with_reducible assumption) | (with_reducible refine below_after (by with_reducible assumption) ?_) | go_size))⟩
set_option maxHeartbeats 1600000 in
theorem l08Coordinates_any (c0 c1 c2 c3 c4 c5 c6 c7 c8 a0 a1 a2 : Int) (w : World) (g0 : W3 100000 c0 c1 c2) (g1 : W3 100000 c3 c4 c5) (g2 : W3 100000 c6 c7 c8) (h : W3 100000 a0 a1 a2) :
    Calls Tryd.prog 59 #[.agg #[.int .i64 c0, .int .i64 c1, .int .i64 c2, .int .i64 c3, .int .i64 c4, .int .i64 c5, .int .i64 c6, .int .i64 c7, .int .i64 c8], .agg #[.int .i64 a0, .int .i64 a1, .int .i64 a2]] w fun e w' => e = .returned (.agg #[.int .i64 (co0 c0 c1 c2 c3 c4 c5 c6 c7 c8 a0 a1 a2), .int .i64 (co1 c0 c1 c2 c3 c4 c5 c6 c7 c8 a0 a1 a2), .int .i64 (co2 c0 c1 c2 c3 c4 c5 c6 c7 c8 a0 a1 a2)]) ∧ Below w.heap.size w w' := by
  obtain ⟨D, hD⟩ : ∃ D, (detV c0 c1 c2 c3 c4 c5 c6 c7 c8) = D := ⟨_, rfl⟩
  have HD : Hid (∀ w, Calls Tryd.prog 51 #[.agg #[.int .i64 c0, .int .i64 c1, .int .i64 c2], .agg #[.int .i64 c3, .int .i64 c4, .int .i64 c5], .agg #[.int .i64 c6, .int .i64 c7, .int .i64 c8]] w fun e w' => e = .returned (.int .i64 D) ∧ Below w.heap.size w w') := fun w => by have := l08Det_any c0 c1 c2 c3 c4 c5 c6 c7 c8 w g0 g1 g2; rwa [hD] at this
  obtain ⟨E0, hE0⟩ : ∃ E, detV a0 a1 a2 c3 c4 c5 c6 c7 c8 = E := ⟨_, rfl⟩
  have HE0 : Hid (∀ w, Calls Tryd.prog 51 #[.agg #[.int .i64 a0, .int .i64 a1, .int .i64 a2], .agg #[.int .i64 c3, .int .i64 c4, .int .i64 c5], .agg #[.int .i64 c6, .int .i64 c7, .int .i64 c8]] w fun e w' => e = .returned (.int .i64 E0) ∧ Below w.heap.size w w') := fun w => by have := l08Det_any a0 a1 a2 c3 c4 c5 c6 c7 c8 w h g1 g2; rwa [hE0] at this
  have we0 : Wi 1000000000000000000 E0 := by rw [← hE0]; exact (h.det g1 g2).up (by omega)
  unfold Wi at we0
  have wr0 : IntKind.i64.wrap (-E0) = -E0 := by rw [IntKind.wrap_i64]; omega
  have ws0 : IntKind.i64.wrap E0 = E0 := by rw [IntKind.wrap_i64]; omega
  obtain ⟨E1, hE1⟩ : ∃ E, detV a0 a1 a2 c6 c7 c8 c0 c1 c2 = E := ⟨_, rfl⟩
  have HE1 : Hid (∀ w, Calls Tryd.prog 51 #[.agg #[.int .i64 a0, .int .i64 a1, .int .i64 a2], .agg #[.int .i64 c6, .int .i64 c7, .int .i64 c8], .agg #[.int .i64 c0, .int .i64 c1, .int .i64 c2]] w fun e w' => e = .returned (.int .i64 E1) ∧ Below w.heap.size w w') := fun w => by have := l08Det_any a0 a1 a2 c6 c7 c8 c0 c1 c2 w h g2 g0; rwa [hE1] at this
  have we1 : Wi 1000000000000000000 E1 := by rw [← hE1]; exact (h.det g2 g0).up (by omega)
  unfold Wi at we1
  have wr1 : IntKind.i64.wrap (-E1) = -E1 := by rw [IntKind.wrap_i64]; omega
  have ws1 : IntKind.i64.wrap E1 = E1 := by rw [IntKind.wrap_i64]; omega
  obtain ⟨E2, hE2⟩ : ∃ E, detV a0 a1 a2 c0 c1 c2 c3 c4 c5 = E := ⟨_, rfl⟩
  have HE2 : Hid (∀ w, Calls Tryd.prog 51 #[.agg #[.int .i64 a0, .int .i64 a1, .int .i64 a2], .agg #[.int .i64 c0, .int .i64 c1, .int .i64 c2], .agg #[.int .i64 c3, .int .i64 c4, .int .i64 c5]] w fun e w' => e = .returned (.int .i64 E2) ∧ Below w.heap.size w w') := fun w => by have := l08Det_any a0 a1 a2 c0 c1 c2 c3 c4 c5 w h g0 g1; rwa [hE2] at this
  have we2 : Wi 1000000000000000000 E2 := by rw [← hE2]; exact (h.det g0 g1).up (by omega)
  unfold Wi at we2
  have wr2 : IntKind.i64.wrap (-E2) = -E2 := by rw [IntKind.wrap_i64]; omega
  have ws2 : IntKind.i64.wrap E2 = E2 := by rw [IntKind.wrap_i64]; omega
  have wn0 : IntKind.i64.wrap 0 = 0 := by decide
  have wn1 : IntKind.i64.wrap 1 = 1 := by decide
  have wn2 : IntKind.i64.wrap 2 = 2 := by decide
  have wn3 : IntKind.i64.wrap 3 = 3 := by decide
  have wn4 : IntKind.i64.wrap 4 = 4 := by decide
  clear g0 g1 g2 h
  by_cases hneg : D < 0
  · skip
    have HR0 : Hid (co0 c0 c1 c2 c3 c4 c5 c6 c7 c8 a0 a1 a2 = (-E0)) := by show _ = _; unfold co0 sgV; rw [hD, if_pos hneg, hE0]; omega
    have HR1 : Hid (co1 c0 c1 c2 c3 c4 c5 c6 c7 c8 a0 a1 a2 = (-E1)) := by show _ = _; unfold co1 sgV; rw [hD, if_pos hneg, hE1]; omega
    have HR2 : Hid (co2 c0 c1 c2 c3 c4 c5 c6 c7 c8 a0 a1 a2 = (-E2)) := by show _ = _; unfold co2 sgV; rw [hD, if_pos hneg, hE2]; omega
    clear hE0 hE1 hE2 hD
    obtain ⟨GC, hG⟩ : ∃ G, w.heap.size = G := ⟨_, rfl⟩
    have HG := Lib.hid hG
    go_enter Tryd.func59, Tryd.ntmps59
    go_upto_region 1 with fail
    obtain ⟨w0, hw0⟩ : ∃ w0, w0 = (((w.alloc (.cells #[.int .i64 c0, .int .i64 c1, .int .i64 c2, .int .i64 c3, .int .i64 c4, .int .i64 c5, .int .i64 c6, .int .i64 c7, .int .i64 c8] 39)).alloc (.cells #[.int .i64 a0, .int .i64 a1, .int .i64 a2] 26)).alloc (.cells #[.int .i64 0, .int .i64 0, .int .i64 0] 26)) := ⟨_, rfl⟩
    rw [← hw0]
    have HC : Hid (Bk9 w0 GC c0 c1 c2 c3 c4 c5 c6 c7 c8) := by
      have h := (bk9_new w c0 c1 c2 c3 c4 c5 c6 c7 c8 39).below (W' := (((w.alloc (.cells #[.int .i64 c0, .int .i64 c1, .int .i64 c2, .int .i64 c3, .int .i64 c4, .int .i64 c5, .int .i64 c6, .int .i64 c7, .int .i64 c8] 39)).alloc (.cells #[.int .i64 a0, .int .i64 a1, .int .i64 a2] 26)).alloc (.cells #[.int .i64 0, .int .i64 0, .int .i64 0] 26))) (by (repeat' (first | (with_reducible exact Below.refl _ _) | (with_reducible refine Below.alloc ?_ ?_ _) | (with_reducible refine Below.setCell ?_ ?_ _) | (with_reducible refine Below.drew ?_) | (with_reducible refine below_drewN ?_ _) | (with_reducible assumption) | (with_reducible refine below_after (by with_reducible assumption) ?_) | go_size)))
      (try simp only [World.size_alloc] at h)
      rw [hG] at h
      rw [hw0]; exact h
    have HA : Hid (Bk3 w0 (GC + 1) a0 a1 a2) := by
      have h := (bk3_new (w.alloc (.cells #[.int .i64 c0, .int .i64 c1, .int .i64 c2, .int .i64 c3, .int .i64 c4, .int .i64 c5, .int .i64 c6, .int .i64 c7, .int .i64 c8] 39)) a0 a1 a2 26).below (W' := (((w.alloc (.cells #[.int .i64 c0, .int .i64 c1, .int .i64 c2, .int .i64 c3, .int .i64 c4, .int .i64 c5, .int .i64 c6, .int .i64 c7, .int .i64 c8] 39)).alloc (.cells #[.int .i64 a0, .int .i64 a1, .int .i64 a2] 26)).alloc (.cells #[.int .i64 0, .int .i64 0, .int .i64 0] 26))) (by (repeat' (first | (with_reducible exact Below.refl _ _) | (with_reducible refine Below.alloc ?_ ?_ _) | (with_reducible refine Below.setCell ?_ ?_ _) | (with_reducible refine Below.drew ?_) | (with_reducible refine below_drewN ?_ _) | (with_reducible assumption) | (with_reducible refine below_after (by with_reducible assumption) ?_) | go_size)))
      (try simp only [World.size_alloc] at h)
      rw [hG] at h
      rw [hw0]; exact h
    have HR : Hid (Bk3 w0 (GC + 1 + 1) 0 0 0) := by
      have h := (bk3_new ((w.alloc (.cells #[.int .i64 c0, .int .i64 c1, .int .i64 c2, .int .i64 c3, .int .i64 c4, .int .i64 c5, .int .i64 c6, .int .i64 c7, .int .i64 c8] 39)).alloc (.cells #[.int .i64 a0, .int .i64 a1, .int .i64 a2] 26)) 0 0 0 26).below (W' := (((w.alloc (.cells #[.int .i64 c0, .int .i64 c1, .int .i64 c2, .int .i64 c3, .int .i64 c4, .int .i64 c5, .int .i64 c6, .int .i64 c7, .int .i64 c8] 39)).alloc (.cells #[.int .i64 a0, .int .i64 a1, .int .i64 a2] 26)).alloc (.cells #[.int .i64 0, .int .i64 0, .int .i64 0] 26))) (by (repeat' (first | (with_reducible exact Below.refl _ _) | (with_reducible refine Below.alloc ?_ ?_ _) | (with_reducible refine Below.setCell ?_ ?_ _) | (with_reducible refine Below.drew ?_) | (with_reducible refine below_drewN ?_ _) | (with_reducible assumption) | (with_reducible refine below_after (by with_reducible assumption) ?_) | go_size)))
      (try simp only [World.size_alloc] at h)
      rw [hG] at h
      rw [hw0]; exact h
    have HB : Hid (Below w.heap.size w w0) := by show Below w.heap.size w w0; rw [hw0]; (repeat' (first | (with_reducible exact Below.refl _ _) | (with_reducible refine Below.alloc ?_ ?_ _) | (with_reducible refine Below.setCell ?_ ?_ _) | (with_reducible refine Below.drew ?_) | (with_reducible refine below_drewN ?_ _) | (with_reducible assumption) | (with_reducible refine below_after (by with_reducible assumption) ?_) | go_size))
    clear hw0
    obtain ⟨GR, hGR⟩ : ∃ g, GC + 1 + 1 = g := ⟨_, rfl⟩
    rw [hGR] at HR ⊢
    obtain ⟨GA, hGA⟩ : ∃ g, GC + 1 = g := ⟨_, rfl⟩
    rw [hGA] at HA ⊢
    have le_C : w.heap.size ≤ GC := by omega
    have le_A : w.heap.size ≤ GA := by omega
    have ne_A_C : GA ≠ GC := by omega
    have ne_C_A : GC ≠ GA := by omega
    have le_R : w.heap.size ≤ GR := by omega
    have ne_R_C : GR ≠ GC := by omega
    have ne_C_R : GC ≠ GR := by omega
    have ne_R_A : GR ≠ GA := by omega
    have ne_A_R : GA ≠ GR := by omega
    clear hGA hGR
    obtain ⟨⟨qC0, qC1, qC2, qC3, qC4, qC5, qC6, qC7, qC8⟩, ⟨fC0, fC1, fC2, fC3, fC4, fC5, fC6, fC7, fC8⟩, zC⟩ := HC.out
    obtain ⟨⟨qA0, qA1, qA2⟩, ⟨fA0, fA1, fA2⟩, zA⟩ := HA.out
    obtain ⟨⟨qR0, qR1, qR2⟩, ⟨fR0, fR1, fR2⟩, zR⟩ := HR.out
    go_upto_region 2 with fail
    obtain ⟨GO, hGO⟩ : ∃ g, w0.heap.size = g := ⟨_, rfl⟩
    obtain ⟨w1, hw1⟩ : ∃ wx, wx = w0.alloc (.cells #[.int .i64 0, .int .i64 0, .int .i64 0] 26) := ⟨_, rfl⟩
    rw [← hw1, hGO]
    have HO : Hid (Bk3 w1 GO 0 0 0) := by rw [hw1, ← hGO]; exact bk3_new w0 0 0 0 _
    have le_O : w.heap.size ≤ GO := by rw [← hGO]; exact HB.out.size
    have ne_O_C : GO ≠ GC := by have := HC.out.2.2; omega
    have ne_C_O : GC ≠ GO := Ne.symm ne_O_C
    have ne_O_A : GO ≠ GA := by have := HA.out.2.2; omega
    have ne_A_O : GA ≠ GO := Ne.symm ne_O_A
    have ne_O_R : GO ≠ GR := by have := HR.out.2.2; omega
    have ne_R_O : GR ≠ GO := Ne.symm ne_O_R
    clear qC0 fC0 qC1 fC1 qC2 fC2 qC3 fC3 qC4 fC4 qC5 fC5 qC6 fC6 qC7 fC7 qC8 fC8 zC qA0 fA0 qA1 fA1 qA2 fA2 zA qR0 fR0 qR1 fR1 qR2 fR2 zR
    have HC := Lib.hid (HC.out.below ((Below.refl _ _).alloc (Nat.le_refl _) (.cells #[.int .i64 0, .int .i64 0, .int .i64 0] 26)))
    have HA := Lib.hid (HA.out.below ((Below.refl _ _).alloc (Nat.le_refl _) (.cells #[.int .i64 0, .int .i64 0, .int .i64 0] 26)))
    have HR := Lib.hid (HR.out.below ((Below.refl _ _).alloc (Nat.le_refl _) (.cells #[.int .i64 0, .int .i64 0, .int .i64 0] 26)))
    have HB := Lib.hid (Below.alloc HB.out HB.out.size (.cells #[.int .i64 0, .int .i64 0, .int .i64 0] 26))
    rw [← hw1] at HC HA HR HB
    clear hw1 hGO
    obtain ⟨⟨qC0, qC1, qC2, qC3, qC4, qC5, qC6, qC7, qC8⟩, ⟨fC0, fC1, fC2, fC3, fC4, fC5, fC6, fC7, fC8⟩, zC⟩ := HC.out
    obtain ⟨⟨qA0, qA1, qA2⟩, ⟨fA0, fA1, fA2⟩, zA⟩ := HA.out
    obtain ⟨⟨qR0, qR1, qR2⟩, ⟨fR0, fR1, fR2⟩, zR⟩ := HR.out
    obtain ⟨⟨qO0, qO1, qO2⟩, ⟨fO0, fO1, fO2⟩, zO⟩ := HO.out
    go_wp2_with fail
    go_at_call 51
    refine (HD.out _).mono ?_
    rintro e w2 ⟨rfl, hb⟩
    clear qC0 fC0 qC1 fC1 qC2 fC2 qC3 fC3 qC4 fC4 qC5 fC5 qC6 fC6 qC7 fC7 qC8 fC8 zC qA0 fA0 qA1 fA1 qA2 fA2 zA qR0 fR0 qR1 fR1 qR2 fR2 zR qO0 fO0 qO1 fO1 qO2 fO2 zO
    have HC := Lib.hid (HC.out.below hb)
    have HA := Lib.hid (HA.out.below hb)
    have HR := Lib.hid (HR.out.below hb)
    have HO := Lib.hid (HO.out.below hb)
    have HB := Lib.hid (below_after hb HB.out)
    clear hb
    obtain ⟨⟨qC0, qC1, qC2, qC3, qC4, qC5, qC6, qC7, qC8⟩, ⟨fC0, fC1, fC2, fC3, fC4, fC5, fC6, fC7, fC8⟩, zC⟩ := HC.out
    obtain ⟨⟨qA0, qA1, qA2⟩, ⟨fA0, fA1, fA2⟩, zA⟩ := HA.out
    obtain ⟨⟨qR0, qR1, qR2⟩, ⟨fR0, fR1, fR2⟩, zR⟩ := HR.out
    obtain ⟨⟨qO0, qO1, qO2⟩, ⟨fO0, fO1, fO2⟩, zO⟩ := HO.out
    go_wp2_with fail
    clear qC0 fC0 qC1 fC1 qC2 fC2 qC3 fC3 qC4 fC4 qC5 fC5 qC6 fC6 qC7 fC7 qC8 fC8 zC qA0 fA0 qA1 fA1 qA2 fA2 zA qR0 fR0 qR1 fR1 qR2 fR2 zR qO0 fO0 qO1 fO1 qO2 fO2 zO
    have HNE : Hid (GO ≠ GC ∧ GO ≠ GA ∧ GO ≠ GR ∧ GC ≠ GO ∧ GA ≠ GO ∧ GR ≠ GO ∧ w.heap.size ≤ GO) := ⟨ne_O_C, ne_O_A, ne_O_R, ne_C_O, ne_A_O, ne_R_O, le_O⟩
    go_loopw [7] (fun y wr => ∃ i : Nat, y = .int .i64 (i : Int) ∧ i ≤ 3 ∧ (match i with | 0 => Bk3 wr GO 0 0 0 | 1 => Bk3 wr GO (-E0) 0 0 | 2 => Bk3 wr GO (-E0) (-E1) 0 | _ => Bk3 wr GO (-E0) (-E1) (-E2)) ∧ Bk9 wr GC c0 c1 c2 c3 c4 c5 c6 c7 c8 ∧ Bk3 wr GA a0 a1 a2 ∧ Bk3 wr GR 0 0 0 ∧ Below w.heap.size w wr) (fun y _ => 3 - (intOf y).toNat)
    case atStart => exact ⟨0, rfl, by omega, HO.out, HC.out, HA.out, HR.out, HB.out⟩
    case round =>
      obtain ⟨i, rfl, hi, hO, hC, hA, hR, hbel⟩ := hrel
      clear HO HC HA HR HB
      have HO0 := Lib.hid hO
      have HC := Lib.hid hC
      have HA := Lib.hid hA
      have HR := Lib.hid hR
      have HB := Lib.hid hbel
      clear hO hC hA hR hbel
      rcases (show i = 0 ∨ i = 1 ∨ i = 2 ∨ i = 3 by omega) with rfl | rfl | rfl | rfl
      · rw [show ((0 : Nat) : Int) = 0 from rfl]
        have HO : Hid (Bk3 wr GO 0 0 0) := HO0.out
        clear HO0
        obtain ⟨ne_O_C, ne_O_A, ne_O_R, ne_C_O, ne_A_O, ne_R_O, le_O⟩ := HNE.out
        obtain ⟨⟨qO0, qO1, qO2⟩, ⟨fO0, fO1, fO2⟩, zO⟩ := HO.out
        obtain ⟨⟨qC0, qC1, qC2, qC3, qC4, qC5, qC6, qC7, qC8⟩, ⟨fC0, fC1, fC2, fC3, fC4, fC5, fC6, fC7, fC8⟩, zC⟩ := HC.out
        obtain ⟨⟨qA0, qA1, qA2⟩, ⟨fA0, fA1, fA2⟩, zA⟩ := HA.out
        obtain ⟨⟨qR0, qR1, qR2⟩, ⟨fR0, fR1, fR2⟩, zR⟩ := HR.out
        go_upto_region 7 with fail
        clear qO0 fO0 qO1 fO1 qO2 fO2 zO qC0 fC0 qC1 fC1 qC2 fC2 qC3 fC3 qC4 fC4 qC5 fC5 qC6 fC6 qC7 fC7 qC8 fC8 zC qA0 fA0 qA1 fA1 qA2 fA2 zA qR0 fR0 qR1 fR1 qR2 fR2 zR
        go_wp2_with fail
        refine wp_region_held_drew (S := fun W => Below w.heap.size w W ∧ Bk9 W GC c0 c1 c2 c3 c4 c5 c6 c7 c8 ∧ Bk3 W GA a0 a1 a2 ∧ Bk3 W GR 0 0 0) (by kernel_rfl) ?_ (fun hHeld => ?_); focus ((try dsimp only); exact ⟨Below.drew HB.out, HC.out.below (Below.drew (Below.refl _ _)), HA.out.below (Below.drew (Below.refl _ _)), HR.out.below (Below.drew (Below.refl _ _))⟩)
        have HO := Lib.hid (HO.out.below (Below.drew (Below.refl _ _)))
        have HC := Lib.hid (HC.out.below (Below.drew (Below.refl _ _)))
        have HA := Lib.hid (HA.out.below (Below.drew (Below.refl _ _)))
        have HR := Lib.hid (HR.out.below (Below.drew (Below.refl _ _)))
        have hHeld : (fun W => Below w.heap.size w W ∧ Bk9 W GC c0 c1 c2 c3 c4 c5 c6 c7 c8 ∧ Bk3 W GA a0 a1 a2 ∧ Bk3 W GR 0 0 0) _ := hHeld
        obtain ⟨wD40, hwD40⟩ : ∃ wD, wr.drew = wD := ⟨_, rfl⟩
        rw [hwD40] at hHeld HO HC HA HR ⊢
        clear hwD40
        (refine wpAnyH_take (i := 0) (v := ?_) rfl (by kernel_rfl) (by kernel_rfl) (by kernel_rfl) (fun _ _ _ h => h) (Or.inl ⟨rfl, ?_⟩) (by assumption) ?_; rotate_left; focus (intro W hSw; (try dsimp only at hSw); obtain ⟨hSb, hxC, hxA, hxR⟩ := hSw; obtain ⟨⟨iC0, iC1, iC2, iC3, iC4, iC5, iC6, iC7, iC8⟩, _, _⟩ := hxC; obtain ⟨⟨iA0, iA1, iA2⟩, _, _⟩ := hxA; obtain ⟨⟨iR0, iR1, iR2⟩, _, _⟩ := hxR; go_simp; try (with_reducible rfl))); (try simp only [Act.put, List.getElem_toArray, List.getElem_cons_succ, List.getElem_cons_zero, List.setIfInBounds_toArray, List.set_cons_zero, List.set_cons_succ])
        (refine wpAnyH_take (i := 1) (v := ?_) rfl (by kernel_rfl) (by kernel_rfl) (by kernel_rfl) (fun _ _ _ h => h) (Or.inl ⟨rfl, ?_⟩) (by assumption) ?_; rotate_left; focus (intro W hSw; (try dsimp only at hSw); obtain ⟨hSb, hxC, hxA, hxR⟩ := hSw; obtain ⟨⟨iC0, iC1, iC2, iC3, iC4, iC5, iC6, iC7, iC8⟩, _, _⟩ := hxC; obtain ⟨⟨iA0, iA1, iA2⟩, _, _⟩ := hxA; obtain ⟨⟨iR0, iR1, iR2⟩, _, _⟩ := hxR; go_simp; try (with_reducible rfl))); (try simp only [Act.put, List.getElem_toArray, List.getElem_cons_succ, List.getElem_cons_zero, List.setIfInBounds_toArray, List.set_cons_zero, List.set_cons_succ])
        (refine wpAnyH_take (i := 2) (v := ?_) rfl (by kernel_rfl) (by kernel_rfl) (by kernel_rfl) (fun _ _ _ h => h) (Or.inl ⟨rfl, ?_⟩) (by assumption) ?_; rotate_left; focus (intro W hSw; (try dsimp only at hSw); obtain ⟨hSb, hxC, hxA, hxR⟩ := hSw; obtain ⟨⟨iC0, iC1, iC2, iC3, iC4, iC5, iC6, iC7, iC8⟩, _, _⟩ := hxC; obtain ⟨⟨iA0, iA1, iA2⟩, _, _⟩ := hxA; obtain ⟨⟨iR0, iR1, iR2⟩, _, _⟩ := hxR; go_simp; try (with_reducible rfl))); (try simp only [Act.put, List.getElem_toArray, List.getElem_cons_succ, List.getElem_cons_zero, List.setIfInBounds_toArray, List.set_cons_zero, List.set_cons_succ])
        (refine wpAnyH_take (i := 3) (v := ?_) rfl (by kernel_rfl) (by kernel_rfl) (by kernel_rfl) (fun _ _ _ h => h) (Or.inl ⟨rfl, ?_⟩) (by assumption) ?_; rotate_left; focus (intro W hSw; (try dsimp only at hSw); obtain ⟨hSb, hxC, hxA, hxR⟩ := hSw; obtain ⟨⟨iC0, iC1, iC2, iC3, iC4, iC5, iC6, iC7, iC8⟩, _, _⟩ := hxC; obtain ⟨⟨iA0, iA1, iA2⟩, _, _⟩ := hxA; obtain ⟨⟨iR0, iR1, iR2⟩, _, _⟩ := hxR; go_simp; try (with_reducible rfl))); (try simp only [Act.put, List.getElem_toArray, List.getElem_cons_succ, List.getElem_cons_zero, List.setIfInBounds_toArray, List.set_cons_zero, List.set_cons_succ])
        (refine wpAnyH_take (i := 4) (v := ?_) rfl (by kernel_rfl) (by kernel_rfl) (by kernel_rfl) (fun _ _ _ h => h) (Or.inl ⟨rfl, ?_⟩) (by assumption) ?_; rotate_left; focus (intro W hSw; (try dsimp only at hSw); obtain ⟨hSb, hxC, hxA, hxR⟩ := hSw; obtain ⟨⟨iC0, iC1, iC2, iC3, iC4, iC5, iC6, iC7, iC8⟩, _, _⟩ := hxC; obtain ⟨⟨iA0, iA1, iA2⟩, _, _⟩ := hxA; obtain ⟨⟨iR0, iR1, iR2⟩, _, _⟩ := hxR; go_simp; try (with_reducible rfl))); (try simp only [Act.put, List.getElem_toArray, List.getElem_cons_succ, List.getElem_cons_zero, List.setIfInBounds_toArray, List.set_cons_zero, List.set_cons_succ])
        (refine wpAnyH_take (i := 5) (v := ?_) rfl (by kernel_rfl) (by kernel_rfl) (by kernel_rfl) (fun _ _ _ h => h) (Or.inl ⟨rfl, ?_⟩) (by assumption) ?_; rotate_left; focus (intro W hSw; (try dsimp only at hSw); obtain ⟨hSb, hxC, hxA, hxR⟩ := hSw; obtain ⟨⟨iC0, iC1, iC2, iC3, iC4, iC5, iC6, iC7, iC8⟩, _, _⟩ := hxC; obtain ⟨⟨iA0, iA1, iA2⟩, _, _⟩ := hxA; obtain ⟨⟨iR0, iR1, iR2⟩, _, _⟩ := hxR; go_simp; try (with_reducible rfl))); (try simp only [Act.put, List.getElem_toArray, List.getElem_cons_succ, List.getElem_cons_zero, List.setIfInBounds_toArray, List.set_cons_zero, List.set_cons_succ])
        (refine wpAnyH_take (i := 6) (v := ?_) rfl (by kernel_rfl) (by kernel_rfl) (by kernel_rfl) (fun _ _ _ h => h) (Or.inl ⟨rfl, ?_⟩) (by assumption) ?_; rotate_left; focus (intro W hSw; (try dsimp only at hSw); obtain ⟨hSb, hxC, hxA, hxR⟩ := hSw; obtain ⟨⟨iC0, iC1, iC2, iC3, iC4, iC5, iC6, iC7, iC8⟩, _, _⟩ := hxC; obtain ⟨⟨iA0, iA1, iA2⟩, _, _⟩ := hxA; obtain ⟨⟨iR0, iR1, iR2⟩, _, _⟩ := hxR; go_simp; try (with_reducible rfl))); (try simp only [Act.put, List.getElem_toArray, List.getElem_cons_succ, List.getElem_cons_zero, List.setIfInBounds_toArray, List.set_cons_zero, List.set_cons_succ])
        (refine wpAnyH_take (i := 7) (v := ?_) rfl (by kernel_rfl) (by kernel_rfl) (by kernel_rfl) (fun _ _ _ h => h) (Or.inl ⟨rfl, ?_⟩) (by assumption) ?_; rotate_left; focus (intro W hSw; (try dsimp only at hSw); obtain ⟨hSb, hxC, hxA, hxR⟩ := hSw; obtain ⟨⟨iC0, iC1, iC2, iC3, iC4, iC5, iC6, iC7, iC8⟩, _, _⟩ := hxC; obtain ⟨⟨iA0, iA1, iA2⟩, _, _⟩ := hxA; obtain ⟨⟨iR0, iR1, iR2⟩, _, _⟩ := hxR; go_simp; try (with_reducible rfl))); (try simp only [Act.put, List.getElem_toArray, List.getElem_cons_succ, List.getElem_cons_zero, List.setIfInBounds_toArray, List.set_cons_zero, List.set_cons_succ])
        (refine wpAnyH_take (i := 8) (v := ?_) rfl (by kernel_rfl) (by kernel_rfl) (by kernel_rfl) (fun _ _ _ h => h) (Or.inl ⟨rfl, ?_⟩) (by assumption) ?_; rotate_left; focus (intro W hSw; (try dsimp only at hSw); obtain ⟨hSb, hxC, hxA, hxR⟩ := hSw; obtain ⟨⟨iC0, iC1, iC2, iC3, iC4, iC5, iC6, iC7, iC8⟩, _, _⟩ := hxC; obtain ⟨⟨iA0, iA1, iA2⟩, _, _⟩ := hxA; obtain ⟨⟨iR0, iR1, iR2⟩, _, _⟩ := hxR; go_simp; try (with_reducible rfl))); (try simp only [Act.put, List.getElem_toArray, List.getElem_cons_succ, List.getElem_cons_zero, List.setIfInBounds_toArray, List.set_cons_zero, List.set_cons_succ])
        (refine wpAnyH_take (i := 9) (v := ?_) rfl (by kernel_rfl) (by kernel_rfl) (by kernel_rfl) (fun _ _ _ h => h) (Or.inl ⟨rfl, ?_⟩) (by assumption) ?_; rotate_left; focus (intro W hSw; (try dsimp only at hSw); obtain ⟨hSb, hxC, hxA, hxR⟩ := hSw; obtain ⟨⟨iC0, iC1, iC2, iC3, iC4, iC5, iC6, iC7, iC8⟩, _, _⟩ := hxC; obtain ⟨⟨iA0, iA1, iA2⟩, _, _⟩ := hxA; obtain ⟨⟨iR0, iR1, iR2⟩, _, _⟩ := hxR; go_simp; try (with_reducible rfl))); (try simp only [Act.put, List.getElem_toArray, List.getElem_cons_succ, List.getElem_cons_zero, List.setIfInBounds_toArray, List.set_cons_zero, List.set_cons_succ])
        (refine wpAnyH_take (i := 10) (v := ?_) rfl (by kernel_rfl) (by kernel_rfl) (by kernel_rfl) (fun _ _ _ h => h) (Or.inl ⟨rfl, ?_⟩) (by assumption) ?_; rotate_left; focus (intro W hSw; (try dsimp only at hSw); obtain ⟨hSb, hxC, hxA, hxR⟩ := hSw; obtain ⟨⟨iC0, iC1, iC2, iC3, iC4, iC5, iC6, iC7, iC8⟩, _, _⟩ := hxC; obtain ⟨⟨iA0, iA1, iA2⟩, _, _⟩ := hxA; obtain ⟨⟨iR0, iR1, iR2⟩, _, _⟩ := hxR; go_simp; try (with_reducible rfl))); (try simp only [Act.put, List.getElem_toArray, List.getElem_cons_succ, List.getElem_cons_zero, List.setIfInBounds_toArray, List.set_cons_zero, List.set_cons_succ])
        (refine wpAnyH_take (i := 11) (v := ?_) rfl (by kernel_rfl) (by kernel_rfl) (by kernel_rfl) (fun _ _ _ h => h) (Or.inl ⟨rfl, ?_⟩) (by assumption) ?_; rotate_left; focus (intro W hSw; (try dsimp only at hSw); obtain ⟨hSb, hxC, hxA, hxR⟩ := hSw; obtain ⟨⟨iC0, iC1, iC2, iC3, iC4, iC5, iC6, iC7, iC8⟩, _, _⟩ := hxC; obtain ⟨⟨iA0, iA1, iA2⟩, _, _⟩ := hxA; obtain ⟨⟨iR0, iR1, iR2⟩, _, _⟩ := hxR; go_simp; try (with_reducible rfl))); (try simp only [Act.put, List.getElem_toArray, List.getElem_cons_succ, List.getElem_cons_zero, List.setIfInBounds_toArray, List.set_cons_zero, List.set_cons_succ])
        (refine wpAnyH_take (i := 12) (v := ?_) rfl (by kernel_rfl) (by kernel_rfl) (by kernel_rfl) (fun _ _ _ h => h) (Or.inl ⟨rfl, ?_⟩) (by assumption) ?_; rotate_left; focus (intro W hSw; (try dsimp only at hSw); obtain ⟨hSb, hxC, hxA, hxR⟩ := hSw; obtain ⟨⟨iC0, iC1, iC2, iC3, iC4, iC5, iC6, iC7, iC8⟩, _, _⟩ := hxC; obtain ⟨⟨iA0, iA1, iA2⟩, _, _⟩ := hxA; obtain ⟨⟨iR0, iR1, iR2⟩, _, _⟩ := hxR; go_simp; try (with_reducible rfl))); (try simp only [Act.put, List.getElem_toArray, List.getElem_cons_succ, List.getElem_cons_zero, List.setIfInBounds_toArray, List.set_cons_zero, List.set_cons_succ])
        refine wpAnyH_ready (rs := [13]) (by kernel_rfl) (by simp) ?_; refine AllReadyH.cons rfl (fun K hK => ?_) AllReadyH.nil
        go_simp; (go_at_call 51; refine (HE0.out _).mono ?_; rintro en ywr40x0 ⟨rfl, hb2⟩); have HO := Lib.hid (HO.out.below hb2); have HC := Lib.hid (HC.out.below hb2); have HA := Lib.hid (HA.out.below hb2); have HR := Lib.hid (HR.out.below hb2); refine hK.out _ _ ⟨below_after hb2 hHeld.1, HC.out, HA.out, HR.out⟩ (fun hHeld2 => ?_); clear hb2; (clear hHeld; rename _ => hHeld; clear hK K; have hHeld : (fun W => Below w.heap.size w W ∧ Bk9 W GC c0 c1 c2 c3 c4 c5 c6 c7 c8 ∧ Bk3 W GA a0 a1 a2 ∧ Bk3 W GR 0 0 0) _ := hHeld); (try simp only [Act.put, List.getElem_toArray, List.getElem_cons_succ, List.getElem_cons_zero, List.setIfInBounds_toArray, List.set_cons_zero, List.set_cons_succ])
        (refine wpAnyH_take (i := 14) (v := ?_) rfl (by kernel_rfl) (by kernel_rfl) (by kernel_rfl) (fun _ _ _ h => h) (Or.inl ⟨rfl, ?_⟩) (by assumption) ?_; rotate_left; focus (intro W hSw; (try dsimp only at hSw); obtain ⟨hSb, hxC, hxA, hxR⟩ := hSw; obtain ⟨⟨iC0, iC1, iC2, iC3, iC4, iC5, iC6, iC7, iC8⟩, _, _⟩ := hxC; obtain ⟨⟨iA0, iA1, iA2⟩, _, _⟩ := hxA; obtain ⟨⟨iR0, iR1, iR2⟩, _, _⟩ := hxR; go_simp; try (with_reducible rfl))); (try simp only [Act.put, List.getElem_toArray, List.getElem_cons_succ, List.getElem_cons_zero, List.setIfInBounds_toArray, List.set_cons_zero, List.set_cons_succ])
        (refine wpAnyH_take (i := 15) (v := ?_) rfl (by kernel_rfl) (by kernel_rfl) (by kernel_rfl) (fun _ _ _ h => h) (Or.inl ⟨rfl, ?_⟩) (by assumption) ?_; rotate_left; focus (intro W hSw; (try dsimp only at hSw); obtain ⟨hSb, hxC, hxA, hxR⟩ := hSw; obtain ⟨⟨iC0, iC1, iC2, iC3, iC4, iC5, iC6, iC7, iC8⟩, _, _⟩ := hxC; obtain ⟨⟨iA0, iA1, iA2⟩, _, _⟩ := hxA; obtain ⟨⟨iR0, iR1, iR2⟩, _, _⟩ := hxR; go_simp; try (with_reducible rfl))); (try simp only [Act.put, List.getElem_toArray, List.getElem_cons_succ, List.getElem_cons_zero, List.setIfInBounds_toArray, List.set_cons_zero, List.set_cons_succ])
        refine wpAnyH_ready (rs := [16]) (by kernel_rfl) (by simp) ?_; refine AllReadyH.cons rfl (fun K hK => ?_) AllReadyH.nil
        obtain ⟨⟨a0, a1, a2⟩, ⟨f0, f1, f2⟩, az⟩ := HO.out; go_simp; clear a0 f0 a1 f1 a2 f2 az
        have HC := Lib.hid (HC.out.far ⟨GO, 0, none⟩ (.int .i64 (-E0)) (by show GC ≠ GO; exact ne_C_O))
        have HA := Lib.hid (HA.out.far ⟨GO, 0, none⟩ (.int .i64 (-E0)) (by show GA ≠ GO; exact ne_A_O))
        have HR := Lib.hid (HR.out.far ⟨GO, 0, none⟩ (.int .i64 (-E0)) (by show GR ≠ GO; exact ne_R_O))
        have HO := Lib.hid (HO.out.set0 (-E0))
        refine hK.out _ _ ⟨(Below.setCell hHeld.1 (p := ⟨GO, 0, none⟩) le_O _), HC.out, HA.out, HR.out⟩ (fun hHeld2 => ?_); (clear hHeld; rename _ => hHeld; clear hK K; have hHeld : (fun W => Below w.heap.size w W ∧ Bk9 W GC c0 c1 c2 c3 c4 c5 c6 c7 c8 ∧ Bk3 W GA a0 a1 a2 ∧ Bk3 W GR 0 0 0) _ := hHeld); (try simp only [Act.put, List.getElem_toArray, List.getElem_cons_succ, List.getElem_cons_zero, List.setIfInBounds_toArray, List.set_cons_zero, List.set_cons_succ])
        obtain ⟨ywr40x1, hwx⟩ : ∃ wx, ywr40x0.setCell ⟨GO, 0, none⟩ (.int .i64 (-E0)) = wx := ⟨_, rfl⟩; rw [hwx] at HO HC HA HR hHeld ⊢; clear hwx
        refine wpAnyH_done (by kernel_rfl) ?_ _
        have HB := Lib.hid (hHeld.1)
        clear hHeld
        obtain ⟨⟨qO0, qO1, qO2⟩, ⟨fO0, fO1, fO2⟩, zO⟩ := HO.out
        obtain ⟨⟨qC0, qC1, qC2, qC3, qC4, qC5, qC6, qC7, qC8⟩, ⟨fC0, fC1, fC2, fC3, fC4, fC5, fC6, fC7, fC8⟩, zC⟩ := HC.out
        obtain ⟨⟨qA0, qA1, qA2⟩, ⟨fA0, fA1, fA2⟩, zA⟩ := HA.out
        obtain ⟨⟨qR0, qR1, qR2⟩, ⟨fR0, fR1, fR2⟩, zR⟩ := HR.out
        go_wp2_with fail
        clear qO0 fO0 qO1 fO1 qO2 fO2 zO qC0 fC0 qC1 fC1 qC2 fC2 qC3 fC3 qC4 fC4 qC5 fC5 qC6 fC6 qC7 fC7 qC8 fC8 zC qA0 fA0 qA1 fA1 qA2 fA2 zA qR0 fR0 qR1 fR1 qR2 fR2 zR
        go_roundw
        case rel => exact ⟨0 + 1, by first | rfl | go_num, by omega, HO.out, HC.out, HA.out, HR.out, HB.out⟩
        case measure => simp only [intOf]; omega
      · rw [show ((1 : Nat) : Int) = 1 from rfl]
        have HO : Hid (Bk3 wr GO (-E0) 0 0) := HO0.out
        clear HO0
        obtain ⟨ne_O_C, ne_O_A, ne_O_R, ne_C_O, ne_A_O, ne_R_O, le_O⟩ := HNE.out
        obtain ⟨⟨qO0, qO1, qO2⟩, ⟨fO0, fO1, fO2⟩, zO⟩ := HO.out
        obtain ⟨⟨qC0, qC1, qC2, qC3, qC4, qC5, qC6, qC7, qC8⟩, ⟨fC0, fC1, fC2, fC3, fC4, fC5, fC6, fC7, fC8⟩, zC⟩ := HC.out
        obtain ⟨⟨qA0, qA1, qA2⟩, ⟨fA0, fA1, fA2⟩, zA⟩ := HA.out
        obtain ⟨⟨qR0, qR1, qR2⟩, ⟨fR0, fR1, fR2⟩, zR⟩ := HR.out
        go_upto_region 7 with fail
        clear qO0 fO0 qO1 fO1 qO2 fO2 zO qC0 fC0 qC1 fC1 qC2 fC2 qC3 fC3 qC4 fC4 qC5 fC5 qC6 fC6 qC7 fC7 qC8 fC8 zC qA0 fA0 qA1 fA1 qA2 fA2 zA qR0 fR0 qR1 fR1 qR2 fR2 zR
        go_wp2_with fail
        refine wp_region_held_drew (S := fun W => Below w.heap.size w W ∧ Bk9 W GC c0 c1 c2 c3 c4 c5 c6 c7 c8 ∧ Bk3 W GA a0 a1 a2 ∧ Bk3 W GR 0 0 0) (by kernel_rfl) ?_ (fun hHeld => ?_); focus ((try dsimp only); exact ⟨Below.drew HB.out, HC.out.below (Below.drew (Below.refl _ _)), HA.out.below (Below.drew (Below.refl _ _)), HR.out.below (Below.drew (Below.refl _ _))⟩)
        have HO := Lib.hid (HO.out.below (Below.drew (Below.refl _ _)))
        have HC := Lib.hid (HC.out.below (Below.drew (Below.refl _ _)))
        have HA := Lib.hid (HA.out.below (Below.drew (Below.refl _ _)))
        have HR := Lib.hid (HR.out.below (Below.drew (Below.refl _ _)))
        have hHeld : (fun W => Below w.heap.size w W ∧ Bk9 W GC c0 c1 c2 c3 c4 c5 c6 c7 c8 ∧ Bk3 W GA a0 a1 a2 ∧ Bk3 W GR 0 0 0) _ := hHeld
        obtain ⟨wD60, hwD60⟩ : ∃ wD, wr.drew = wD := ⟨_, rfl⟩
        rw [hwD60] at hHeld HO HC HA HR ⊢
        clear hwD60
        (refine wpAnyH_take (i := 0) (v := ?_) rfl (by kernel_rfl) (by kernel_rfl) (by kernel_rfl) (fun _ _ _ h => h) (Or.inl ⟨rfl, ?_⟩) (by assumption) ?_; rotate_left; focus (intro W hSw; (try dsimp only at hSw); obtain ⟨hSb, hxC, hxA, hxR⟩ := hSw; obtain ⟨⟨iC0, iC1, iC2, iC3, iC4, iC5, iC6, iC7, iC8⟩, _, _⟩ := hxC; obtain ⟨⟨iA0, iA1, iA2⟩, _, _⟩ := hxA; obtain ⟨⟨iR0, iR1, iR2⟩, _, _⟩ := hxR; go_simp; try (with_reducible rfl))); (try simp only [Act.put, List.getElem_toArray, List.getElem_cons_succ, List.getElem_cons_zero, List.setIfInBounds_toArray, List.set_cons_zero, List.set_cons_succ])
        (refine wpAnyH_take (i := 1) (v := ?_) rfl (by kernel_rfl) (by kernel_rfl) (by kernel_rfl) (fun _ _ _ h => h) (Or.inl ⟨rfl, ?_⟩) (by assumption) ?_; rotate_left; focus (intro W hSw; (try dsimp only at hSw); obtain ⟨hSb, hxC, hxA, hxR⟩ := hSw; obtain ⟨⟨iC0, iC1, iC2, iC3, iC4, iC5, iC6, iC7, iC8⟩, _, _⟩ := hxC; obtain ⟨⟨iA0, iA1, iA2⟩, _, _⟩ := hxA; obtain ⟨⟨iR0, iR1, iR2⟩, _, _⟩ := hxR; go_simp; try (with_reducible rfl))); (try simp only [Act.put, List.getElem_toArray, List.getElem_cons_succ, List.getElem_cons_zero, List.setIfInBounds_toArray, List.set_cons_zero, List.set_cons_succ])
        (refine wpAnyH_take (i := 2) (v := ?_) rfl (by kernel_rfl) (by kernel_rfl) (by kernel_rfl) (fun _ _ _ h => h) (Or.inl ⟨rfl, ?_⟩) (by assumption) ?_; rotate_left; focus (intro W hSw; (try dsimp only at hSw); obtain ⟨hSb, hxC, hxA, hxR⟩ := hSw; obtain ⟨⟨iC0, iC1, iC2, iC3, iC4, iC5, iC6, iC7, iC8⟩, _, _⟩ := hxC; obtain ⟨⟨iA0, iA1, iA2⟩, _, _⟩ := hxA; obtain ⟨⟨iR0, iR1, iR2⟩, _, _⟩ := hxR; go_simp; try (with_reducible rfl))); (try simp only [Act.put, List.getElem_toArray, List.getElem_cons_succ, List.getElem_cons_zero, List.setIfInBounds_toArray, List.set_cons_zero, List.set_cons_succ])
        (refine wpAnyH_take (i := 3) (v := ?_) rfl (by kernel_rfl) (by kernel_rfl) (by kernel_rfl) (fun _ _ _ h => h) (Or.inl ⟨rfl, ?_⟩) (by assumption) ?_; rotate_left; focus (intro W hSw; (try dsimp only at hSw); obtain ⟨hSb, hxC, hxA, hxR⟩ := hSw; obtain ⟨⟨iC0, iC1, iC2, iC3, iC4, iC5, iC6, iC7, iC8⟩, _, _⟩ := hxC; obtain ⟨⟨iA0, iA1, iA2⟩, _, _⟩ := hxA; obtain ⟨⟨iR0, iR1, iR2⟩, _, _⟩ := hxR; go_simp; try (with_reducible rfl))); (try simp only [Act.put, List.getElem_toArray, List.getElem_cons_succ, List.getElem_cons_zero, List.setIfInBounds_toArray, List.set_cons_zero, List.set_cons_succ])
        (refine wpAnyH_take (i := 4) (v := ?_) rfl (by kernel_rfl) (by kernel_rfl) (by kernel_rfl) (fun _ _ _ h => h) (Or.inl ⟨rfl, ?_⟩) (by assumption) ?_; rotate_left; focus (intro W hSw; (try dsimp only at hSw); obtain ⟨hSb, hxC, hxA, hxR⟩ := hSw; obtain ⟨⟨iC0, iC1, iC2, iC3, iC4, iC5, iC6, iC7, iC8⟩, _, _⟩ := hxC; obtain ⟨⟨iA0, iA1, iA2⟩, _, _⟩ := hxA; obtain ⟨⟨iR0, iR1, iR2⟩, _, _⟩ := hxR; go_simp; try (with_reducible rfl))); (try simp only [Act.put, List.getElem_toArray, List.getElem_cons_succ, List.getElem_cons_zero, List.setIfInBounds_toArray, List.set_cons_zero, List.set_cons_succ])
        (refine wpAnyH_take (i := 5) (v := ?_) rfl (by kernel_rfl) (by kernel_rfl) (by kernel_rfl) (fun _ _ _ h => h) (Or.inl ⟨rfl, ?_⟩) (by assumption) ?_; rotate_left; focus (intro W hSw; (try dsimp only at hSw); obtain ⟨hSb, hxC, hxA, hxR⟩ := hSw; obtain ⟨⟨iC0, iC1, iC2, iC3, iC4, iC5, iC6, iC7, iC8⟩, _, _⟩ := hxC; obtain ⟨⟨iA0, iA1, iA2⟩, _, _⟩ := hxA; obtain ⟨⟨iR0, iR1, iR2⟩, _, _⟩ := hxR; go_simp; try (with_reducible rfl))); (try simp only [Act.put, List.getElem_toArray, List.getElem_cons_succ, List.getElem_cons_zero, List.setIfInBounds_toArray, List.set_cons_zero, List.set_cons_succ])
        (refine wpAnyH_take (i := 6) (v := ?_) rfl (by kernel_rfl) (by kernel_rfl) (by kernel_rfl) (fun _ _ _ h => h) (Or.inl ⟨rfl, ?_⟩) (by assumption) ?_; rotate_left; focus (intro W hSw; (try dsimp only at hSw); obtain ⟨hSb, hxC, hxA, hxR⟩ := hSw; obtain ⟨⟨iC0, iC1, iC2, iC3, iC4, iC5, iC6, iC7, iC8⟩, _, _⟩ := hxC; obtain ⟨⟨iA0, iA1, iA2⟩, _, _⟩ := hxA; obtain ⟨⟨iR0, iR1, iR2⟩, _, _⟩ := hxR; go_simp; try (with_reducible rfl))); (try simp only [Act.put, List.getElem_toArray, List.getElem_cons_succ, List.getElem_cons_zero, List.setIfInBounds_toArray, List.set_cons_zero, List.set_cons_succ])
        (refine wpAnyH_take (i := 7) (v := ?_) rfl (by kernel_rfl) (by kernel_rfl) (by kernel_rfl) (fun _ _ _ h => h) (Or.inl ⟨rfl, ?_⟩) (by assumption) ?_; rotate_left; focus (intro W hSw; (try dsimp only at hSw); obtain ⟨hSb, hxC, hxA, hxR⟩ := hSw; obtain ⟨⟨iC0, iC1, iC2, iC3, iC4, iC5, iC6, iC7, iC8⟩, _, _⟩ := hxC; obtain ⟨⟨iA0, iA1, iA2⟩, _, _⟩ := hxA; obtain ⟨⟨iR0, iR1, iR2⟩, _, _⟩ := hxR; go_simp; try (with_reducible rfl))); (try simp only [Act.put, List.getElem_toArray, List.getElem_cons_succ, List.getElem_cons_zero, List.setIfInBounds_toArray, List.set_cons_zero, List.set_cons_succ])
        (refine wpAnyH_take (i := 8) (v := ?_) rfl (by kernel_rfl) (by kernel_rfl) (by kernel_rfl) (fun _ _ _ h => h) (Or.inl ⟨rfl, ?_⟩) (by assumption) ?_; rotate_left; focus (intro W hSw; (try dsimp only at hSw); obtain ⟨hSb, hxC, hxA, hxR⟩ := hSw; obtain ⟨⟨iC0, iC1, iC2, iC3, iC4, iC5, iC6, iC7, iC8⟩, _, _⟩ := hxC; obtain ⟨⟨iA0, iA1, iA2⟩, _, _⟩ := hxA; obtain ⟨⟨iR0, iR1, iR2⟩, _, _⟩ := hxR; go_simp; try (with_reducible rfl))); (try simp only [Act.put, List.getElem_toArray, List.getElem_cons_succ, List.getElem_cons_zero, List.setIfInBounds_toArray, List.set_cons_zero, List.set_cons_succ])
        (refine wpAnyH_take (i := 9) (v := ?_) rfl (by kernel_rfl) (by kernel_rfl) (by kernel_rfl) (fun _ _ _ h => h) (Or.inl ⟨rfl, ?_⟩) (by assumption) ?_; rotate_left; focus (intro W hSw; (try dsimp only at hSw); obtain ⟨hSb, hxC, hxA, hxR⟩ := hSw; obtain ⟨⟨iC0, iC1, iC2, iC3, iC4, iC5, iC6, iC7, iC8⟩, _, _⟩ := hxC; obtain ⟨⟨iA0, iA1, iA2⟩, _, _⟩ := hxA; obtain ⟨⟨iR0, iR1, iR2⟩, _, _⟩ := hxR; go_simp; try (with_reducible rfl))); (try simp only [Act.put, List.getElem_toArray, List.getElem_cons_succ, List.getElem_cons_zero, List.setIfInBounds_toArray, List.set_cons_zero, List.set_cons_succ])
        (refine wpAnyH_take (i := 10) (v := ?_) rfl (by kernel_rfl) (by kernel_rfl) (by kernel_rfl) (fun _ _ _ h => h) (Or.inl ⟨rfl, ?_⟩) (by assumption) ?_; rotate_left; focus (intro W hSw; (try dsimp only at hSw); obtain ⟨hSb, hxC, hxA, hxR⟩ := hSw; obtain ⟨⟨iC0, iC1, iC2, iC3, iC4, iC5, iC6, iC7, iC8⟩, _, _⟩ := hxC; obtain ⟨⟨iA0, iA1, iA2⟩, _, _⟩ := hxA; obtain ⟨⟨iR0, iR1, iR2⟩, _, _⟩ := hxR; go_simp; try (with_reducible rfl))); (try simp only [Act.put, List.getElem_toArray, List.getElem_cons_succ, List.getElem_cons_zero, List.setIfInBounds_toArray, List.set_cons_zero, List.set_cons_succ])
        (refine wpAnyH_take (i := 11) (v := ?_) rfl (by kernel_rfl) (by kernel_rfl) (by kernel_rfl) (fun _ _ _ h => h) (Or.inl ⟨rfl, ?_⟩) (by assumption) ?_; rotate_left; focus (intro W hSw; (try dsimp only at hSw); obtain ⟨hSb, hxC, hxA, hxR⟩ := hSw; obtain ⟨⟨iC0, iC1, iC2, iC3, iC4, iC5, iC6, iC7, iC8⟩, _, _⟩ := hxC; obtain ⟨⟨iA0, iA1, iA2⟩, _, _⟩ := hxA; obtain ⟨⟨iR0, iR1, iR2⟩, _, _⟩ := hxR; go_simp; try (with_reducible rfl))); (try simp only [Act.put, List.getElem_toArray, List.getElem_cons_succ, List.getElem_cons_zero, List.setIfInBounds_toArray, List.set_cons_zero, List.set_cons_succ])
        (refine wpAnyH_take (i := 12) (v := ?_) rfl (by kernel_rfl) (by kernel_rfl) (by kernel_rfl) (fun _ _ _ h => h) (Or.inl ⟨rfl, ?_⟩) (by assumption) ?_; rotate_left; focus (intro W hSw; (try dsimp only at hSw); obtain ⟨hSb, hxC, hxA, hxR⟩ := hSw; obtain ⟨⟨iC0, iC1, iC2, iC3, iC4, iC5, iC6, iC7, iC8⟩, _, _⟩ := hxC; obtain ⟨⟨iA0, iA1, iA2⟩, _, _⟩ := hxA; obtain ⟨⟨iR0, iR1, iR2⟩, _, _⟩ := hxR; go_simp; try (with_reducible rfl))); (try simp only [Act.put, List.getElem_toArray, List.getElem_cons_succ, List.getElem_cons_zero, List.setIfInBounds_toArray, List.set_cons_zero, List.set_cons_succ])
        refine wpAnyH_ready (rs := [13]) (by kernel_rfl) (by simp) ?_; refine AllReadyH.cons rfl (fun K hK => ?_) AllReadyH.nil
        go_simp; (go_at_call 51; refine (HE1.out _).mono ?_; rintro en ywr60x0 ⟨rfl, hb2⟩); have HO := Lib.hid (HO.out.below hb2); have HC := Lib.hid (HC.out.below hb2); have HA := Lib.hid (HA.out.below hb2); have HR := Lib.hid (HR.out.below hb2); refine hK.out _ _ ⟨below_after hb2 hHeld.1, HC.out, HA.out, HR.out⟩ (fun hHeld2 => ?_); clear hb2; (clear hHeld; rename _ => hHeld; clear hK K; have hHeld : (fun W => Below w.heap.size w W ∧ Bk9 W GC c0 c1 c2 c3 c4 c5 c6 c7 c8 ∧ Bk3 W GA a0 a1 a2 ∧ Bk3 W GR 0 0 0) _ := hHeld); (try simp only [Act.put, List.getElem_toArray, List.getElem_cons_succ, List.getElem_cons_zero, List.setIfInBounds_toArray, List.set_cons_zero, List.set_cons_succ])
        (refine wpAnyH_take (i := 14) (v := ?_) rfl (by kernel_rfl) (by kernel_rfl) (by kernel_rfl) (fun _ _ _ h => h) (Or.inl ⟨rfl, ?_⟩) (by assumption) ?_; rotate_left; focus (intro W hSw; (try dsimp only at hSw); obtain ⟨hSb, hxC, hxA, hxR⟩ := hSw; obtain ⟨⟨iC0, iC1, iC2, iC3, iC4, iC5, iC6, iC7, iC8⟩, _, _⟩ := hxC; obtain ⟨⟨iA0, iA1, iA2⟩, _, _⟩ := hxA; obtain ⟨⟨iR0, iR1, iR2⟩, _, _⟩ := hxR; go_simp; try (with_reducible rfl))); (try simp only [Act.put, List.getElem_toArray, List.getElem_cons_succ, List.getElem_cons_zero, List.setIfInBounds_toArray, List.set_cons_zero, List.set_cons_succ])
        (refine wpAnyH_take (i := 15) (v := ?_) rfl (by kernel_rfl) (by kernel_rfl) (by kernel_rfl) (fun _ _ _ h => h) (Or.inl ⟨rfl, ?_⟩) (by assumption) ?_; rotate_left; focus (intro W hSw; (try dsimp only at hSw); obtain ⟨hSb, hxC, hxA, hxR⟩ := hSw; obtain ⟨⟨iC0, iC1, iC2, iC3, iC4, iC5, iC6, iC7, iC8⟩, _, _⟩ := hxC; obtain ⟨⟨iA0, iA1, iA2⟩, _, _⟩ := hxA; obtain ⟨⟨iR0, iR1, iR2⟩, _, _⟩ := hxR; go_simp; try (with_reducible rfl))); (try simp only [Act.put, List.getElem_toArray, List.getElem_cons_succ, List.getElem_cons_zero, List.setIfInBounds_toArray, List.set_cons_zero, List.set_cons_succ])
        refine wpAnyH_ready (rs := [16]) (by kernel_rfl) (by simp) ?_; refine AllReadyH.cons rfl (fun K hK => ?_) AllReadyH.nil
        obtain ⟨⟨a0, a1, a2⟩, ⟨f0, f1, f2⟩, az⟩ := HO.out; go_simp; clear a0 f0 a1 f1 a2 f2 az
        have HC := Lib.hid (HC.out.far ⟨GO, 1, none⟩ (.int .i64 (-E1)) (by show GC ≠ GO; exact ne_C_O))
        have HA := Lib.hid (HA.out.far ⟨GO, 1, none⟩ (.int .i64 (-E1)) (by show GA ≠ GO; exact ne_A_O))
        have HR := Lib.hid (HR.out.far ⟨GO, 1, none⟩ (.int .i64 (-E1)) (by show GR ≠ GO; exact ne_R_O))
        have HO := Lib.hid (HO.out.set1 (-E1))
        refine hK.out _ _ ⟨(Below.setCell hHeld.1 (p := ⟨GO, 1, none⟩) le_O _), HC.out, HA.out, HR.out⟩ (fun hHeld2 => ?_); (clear hHeld; rename _ => hHeld; clear hK K; have hHeld : (fun W => Below w.heap.size w W ∧ Bk9 W GC c0 c1 c2 c3 c4 c5 c6 c7 c8 ∧ Bk3 W GA a0 a1 a2 ∧ Bk3 W GR 0 0 0) _ := hHeld); (try simp only [Act.put, List.getElem_toArray, List.getElem_cons_succ, List.getElem_cons_zero, List.setIfInBounds_toArray, List.set_cons_zero, List.set_cons_succ])
        obtain ⟨ywr60x1, hwx⟩ : ∃ wx, ywr60x0.setCell ⟨GO, 1, none⟩ (.int .i64 (-E1)) = wx := ⟨_, rfl⟩; rw [hwx] at HO HC HA HR hHeld ⊢; clear hwx
        refine wpAnyH_done (by kernel_rfl) ?_ _
        have HB := Lib.hid (hHeld.1)
        clear hHeld
        obtain ⟨⟨qO0, qO1, qO2⟩, ⟨fO0, fO1, fO2⟩, zO⟩ := HO.out
        obtain ⟨⟨qC0, qC1, qC2, qC3, qC4, qC5, qC6, qC7, qC8⟩, ⟨fC0, fC1, fC2, fC3, fC4, fC5, fC6, fC7, fC8⟩, zC⟩ := HC.out
        obtain ⟨⟨qA0, qA1, qA2⟩, ⟨fA0, fA1, fA2⟩, zA⟩ := HA.out
        obtain ⟨⟨qR0, qR1, qR2⟩, ⟨fR0, fR1, fR2⟩, zR⟩ := HR.out
        go_wp2_with fail
        clear qO0 fO0 qO1 fO1 qO2 fO2 zO qC0 fC0 qC1 fC1 qC2 fC2 qC3 fC3 qC4 fC4 qC5 fC5 qC6 fC6 qC7 fC7 qC8 fC8 zC qA0 fA0 qA1 fA1 qA2 fA2 zA qR0 fR0 qR1 fR1 qR2 fR2 zR
        go_roundw
        case rel => exact ⟨1 + 1, by first | rfl | go_num, by omega, HO.out, HC.out, HA.out, HR.out, HB.out⟩
        case measure => simp only [intOf]; omega
      · rw [show ((2 : Nat) : Int) = 2 from rfl]
        have HO : Hid (Bk3 wr GO (-E0) (-E1) 0) := HO0.out
        clear HO0
        obtain ⟨ne_O_C, ne_O_A, ne_O_R, ne_C_O, ne_A_O, ne_R_O, le_O⟩ := HNE.out
        obtain ⟨⟨qO0, qO1, qO2⟩, ⟨fO0, fO1, fO2⟩, zO⟩ := HO.out
        obtain ⟨⟨qC0, qC1, qC2, qC3, qC4, qC5, qC6, qC7, qC8⟩, ⟨fC0, fC1, fC2, fC3, fC4, fC5, fC6, fC7, fC8⟩, zC⟩ := HC.out
        obtain ⟨⟨qA0, qA1, qA2⟩, ⟨fA0, fA1, fA2⟩, zA⟩ := HA.out
        obtain ⟨⟨qR0, qR1, qR2⟩, ⟨fR0, fR1, fR2⟩, zR⟩ := HR.out
        go_upto_region 7 with fail
        clear qO0 fO0 qO1 fO1 qO2 fO2 zO qC0 fC0 qC1 fC1 qC2 fC2 qC3 fC3 qC4 fC4 qC5 fC5 qC6 fC6 qC7 fC7 qC8 fC8 zC qA0 fA0 qA1 fA1 qA2 fA2 zA qR0 fR0 qR1 fR1 qR2 fR2 zR
        go_wp2_with fail
        refine wp_region_held_drew (S := fun W => Below w.heap.size w W ∧ Bk9 W GC c0 c1 c2 c3 c4 c5 c6 c7 c8 ∧ Bk3 W GA a0 a1 a2 ∧ Bk3 W GR 0 0 0) (by kernel_rfl) ?_ (fun hHeld => ?_); focus ((try dsimp only); exact ⟨Below.drew HB.out, HC.out.below (Below.drew (Below.refl _ _)), HA.out.below (Below.drew (Below.refl _ _)), HR.out.below (Below.drew (Below.refl _ _))⟩)
        have HO := Lib.hid (HO.out.below (Below.drew (Below.refl _ _)))
        have HC := Lib.hid (HC.out.below (Below.drew (Below.refl _ _)))
        have HA := Lib.hid (HA.out.below (Below.drew (Below.refl _ _)))
        have HR := Lib.hid (HR.out.below (Below.drew (Below.refl _ _)))
        have hHeld : (fun W => Below w.heap.size w W ∧ Bk9 W GC c0 c1 c2 c3 c4 c5 c6 c7 c8 ∧ Bk3 W GA a0 a1 a2 ∧ Bk3 W GR 0 0 0) _ := hHeld
        obtain ⟨wD80, hwD80⟩ : ∃ wD, wr.drew = wD := ⟨_, rfl⟩
        rw [hwD80] at hHeld HO HC HA HR ⊢
        clear hwD80
        (refine wpAnyH_take (i := 0) (v := ?_) rfl (by kernel_rfl) (by kernel_rfl) (by kernel_rfl) (fun _ _ _ h => h) (Or.inl ⟨rfl, ?_⟩) (by assumption) ?_; rotate_left; focus (intro W hSw; (try dsimp only at hSw); obtain ⟨hSb, hxC, hxA, hxR⟩ := hSw; obtain ⟨⟨iC0, iC1, iC2, iC3, iC4, iC5, iC6, iC7, iC8⟩, _, _⟩ := hxC; obtain ⟨⟨iA0, iA1, iA2⟩, _, _⟩ := hxA; obtain ⟨⟨iR0, iR1, iR2⟩, _, _⟩ := hxR; go_simp; try (with_reducible rfl))); (try simp only [Act.put, List.getElem_toArray, List.getElem_cons_succ, List.getElem_cons_zero, List.setIfInBounds_toArray, List.set_cons_zero, List.set_cons_succ])
        (refine wpAnyH_take (i := 1) (v := ?_) rfl (by kernel_rfl) (by kernel_rfl) (by kernel_rfl) (fun _ _ _ h => h) (Or.inl ⟨rfl, ?_⟩) (by assumption) ?_; rotate_left; focus (intro W hSw; (try dsimp only at hSw); obtain ⟨hSb, hxC, hxA, hxR⟩ := hSw; obtain ⟨⟨iC0, iC1, iC2, iC3, iC4, iC5, iC6, iC7, iC8⟩, _, _⟩ := hxC; obtain ⟨⟨iA0, iA1, iA2⟩, _, _⟩ := hxA; obtain ⟨⟨iR0, iR1, iR2⟩, _, _⟩ := hxR; go_simp; try (with_reducible rfl))); (try simp only [Act.put, List.getElem_toArray, List.getElem_cons_succ, List.getElem_cons_zero, List.setIfInBounds_toArray, List.set_cons_zero, List.set_cons_succ])
        (refine wpAnyH_take (i := 2) (v := ?_) rfl (by kernel_rfl) (by kernel_rfl) (by kernel_rfl) (fun _ _ _ h => h) (Or.inl ⟨rfl, ?_⟩) (by assumption) ?_; rotate_left; focus (intro W hSw; (try dsimp only at hSw); obtain ⟨hSb, hxC, hxA, hxR⟩ := hSw; obtain ⟨⟨iC0, iC1, iC2, iC3, iC4, iC5, iC6, iC7, iC8⟩, _, _⟩ := hxC; obtain ⟨⟨iA0, iA1, iA2⟩, _, _⟩ := hxA; obtain ⟨⟨iR0, iR1, iR2⟩, _, _⟩ := hxR; go_simp; try (with_reducible rfl))); (try simp only [Act.put, List.getElem_toArray, List.getElem_cons_succ, List.getElem_cons_zero, List.setIfInBounds_toArray, List.set_cons_zero, List.set_cons_succ])
        (refine wpAnyH_take (i := 3) (v := ?_) rfl (by kernel_rfl) (by kernel_rfl) (by kernel_rfl) (fun _ _ _ h => h) (Or.inl ⟨rfl, ?_⟩) (by assumption) ?_; rotate_left; focus (intro W hSw; (try dsimp only at hSw); obtain ⟨hSb, hxC, hxA, hxR⟩ := hSw; obtain ⟨⟨iC0, iC1, iC2, iC3, iC4, iC5, iC6, iC7, iC8⟩, _, _⟩ := hxC; obtain ⟨⟨iA0, iA1, iA2⟩, _, _⟩ := hxA; obtain ⟨⟨iR0, iR1, iR2⟩, _, _⟩ := hxR; go_simp; try (with_reducible rfl))); (try simp only [Act.put, List.getElem_toArray, List.getElem_cons_succ, List.getElem_cons_zero, List.setIfInBounds_toArray, List.set_cons_zero, List.set_cons_succ])
        (refine wpAnyH_take (i := 4) (v := ?_) rfl (by kernel_rfl) (by kernel_rfl) (by kernel_rfl) (fun _ _ _ h => h) (Or.inl ⟨rfl, ?_⟩) (by assumption) ?_; rotate_left; focus (intro W hSw; (try dsimp only at hSw); obtain ⟨hSb, hxC, hxA, hxR⟩ := hSw; obtain ⟨⟨iC0, iC1, iC2, iC3, iC4, iC5, iC6, iC7, iC8⟩, _, _⟩ := hxC; obtain ⟨⟨iA0, iA1, iA2⟩, _, _⟩ := hxA; obtain ⟨⟨iR0, iR1, iR2⟩, _, _⟩ := hxR; go_simp; try (with_reducible rfl))); (try simp only [Act.put, List.getElem_toArray, List.getElem_cons_succ, List.getElem_cons_zero, List.setIfInBounds_toArray, List.set_cons_zero, List.set_cons_succ])
        (refine wpAnyH_take (i := 5) (v := ?_) rfl (by kernel_rfl) (by kernel_rfl) (by kernel_rfl) (fun _ _ _ h => h) (Or.inl ⟨rfl, ?_⟩) (by assumption) ?_; rotate_left; focus (intro W hSw; (try dsimp only at hSw); obtain ⟨hSb, hxC, hxA, hxR⟩ := hSw; obtain ⟨⟨iC0, iC1, iC2, iC3, iC4, iC5, iC6, iC7, iC8⟩, _, _⟩ := hxC; obtain ⟨⟨iA0, iA1, iA2⟩, _, _⟩ := hxA; obtain ⟨⟨iR0, iR1, iR2⟩, _, _⟩ := hxR; go_simp; try (with_reducible rfl))); (try simp only [Act.put, List.getElem_toArray, List.getElem_cons_succ, List.getElem_cons_zero, List.setIfInBounds_toArray, List.set_cons_zero, List.set_cons_succ])
        (refine wpAnyH_take (i := 6) (v := ?_) rfl (by kernel_rfl) (by kernel_rfl) (by kernel_rfl) (fun _ _ _ h => h) (Or.inl ⟨rfl, ?_⟩) (by assumption) ?_; rotate_left; focus (intro W hSw; (try dsimp only at hSw); obtain ⟨hSb, hxC, hxA, hxR⟩ := hSw; obtain ⟨⟨iC0, iC1, iC2, iC3, iC4, iC5, iC6, iC7, iC8⟩, _, _⟩ := hxC; obtain ⟨⟨iA0, iA1, iA2⟩, _, _⟩ := hxA; obtain ⟨⟨iR0, iR1, iR2⟩, _, _⟩ := hxR; go_simp; try (with_reducible rfl))); (try simp only [Act.put, List.getElem_toArray, List.getElem_cons_succ, List.getElem_cons_zero, List.setIfInBounds_toArray, List.set_cons_zero, List.set_cons_succ])
        (refine wpAnyH_take (i := 7) (v := ?_) rfl (by kernel_rfl) (by kernel_rfl) (by kernel_rfl) (fun _ _ _ h => h) (Or.inl ⟨rfl, ?_⟩) (by assumption) ?_; rotate_left; focus (intro W hSw; (try dsimp only at hSw); obtain ⟨hSb, hxC, hxA, hxR⟩ := hSw; obtain ⟨⟨iC0, iC1, iC2, iC3, iC4, iC5, iC6, iC7, iC8⟩, _, _⟩ := hxC; obtain ⟨⟨iA0, iA1, iA2⟩, _, _⟩ := hxA; obtain ⟨⟨iR0, iR1, iR2⟩, _, _⟩ := hxR; go_simp; try (with_reducible rfl))); (try simp only [Act.put, List.getElem_toArray, List.getElem_cons_succ, List.getElem_cons_zero, List.setIfInBounds_toArray, List.set_cons_zero, List.set_cons_succ])
        (refine wpAnyH_take (i := 8) (v := ?_) rfl (by kernel_rfl) (by kernel_rfl) (by kernel_rfl) (fun _ _ _ h => h) (Or.inl ⟨rfl, ?_⟩) (by assumption) ?_; rotate_left; focus (intro W hSw; (try dsimp only at hSw); obtain ⟨hSb, hxC, hxA, hxR⟩ := hSw; obtain ⟨⟨iC0, iC1, iC2, iC3, iC4, iC5, iC6, iC7, iC8⟩, _, _⟩ := hxC; obtain ⟨⟨iA0, iA1, iA2⟩, _, _⟩ := hxA; obtain ⟨⟨iR0, iR1, iR2⟩, _, _⟩ := hxR; go_simp; try (with_reducible rfl))); (try simp only [Act.put, List.getElem_toArray, List.getElem_cons_succ, List.getElem_cons_zero, List.setIfInBounds_toArray, List.set_cons_zero, List.set_cons_succ])
        (refine wpAnyH_take (i := 9) (v := ?_) rfl (by kernel_rfl) (by kernel_rfl) (by kernel_rfl) (fun _ _ _ h => h) (Or.inl ⟨rfl, ?_⟩) (by assumption) ?_; rotate_left; focus (intro W hSw; (try dsimp only at hSw); obtain ⟨hSb, hxC, hxA, hxR⟩ := hSw; obtain ⟨⟨iC0, iC1, iC2, iC3, iC4, iC5, iC6, iC7, iC8⟩, _, _⟩ := hxC; obtain ⟨⟨iA0, iA1, iA2⟩, _, _⟩ := hxA; obtain ⟨⟨iR0, iR1, iR2⟩, _, _⟩ := hxR; go_simp; try (with_reducible rfl))); (try simp only [Act.put, List.getElem_toArray, List.getElem_cons_succ, List.getElem_cons_zero, List.setIfInBounds_toArray, List.set_cons_zero, List.set_cons_succ])
        (refine wpAnyH_take (i := 10) (v := ?_) rfl (by kernel_rfl) (by kernel_rfl) (by kernel_rfl) (fun _ _ _ h => h) (Or.inl ⟨rfl, ?_⟩) (by assumption) ?_; rotate_left; focus (intro W hSw; (try dsimp only at hSw); obtain ⟨hSb, hxC, hxA, hxR⟩ := hSw; obtain ⟨⟨iC0, iC1, iC2, iC3, iC4, iC5, iC6, iC7, iC8⟩, _, _⟩ := hxC; obtain ⟨⟨iA0, iA1, iA2⟩, _, _⟩ := hxA; obtain ⟨⟨iR0, iR1, iR2⟩, _, _⟩ := hxR; go_simp; try (with_reducible rfl))); (try simp only [Act.put, List.getElem_toArray, List.getElem_cons_succ, List.getElem_cons_zero, List.setIfInBounds_toArray, List.set_cons_zero, List.set_cons_succ])
        (refine wpAnyH_take (i := 11) (v := ?_) rfl (by kernel_rfl) (by kernel_rfl) (by kernel_rfl) (fun _ _ _ h => h) (Or.inl ⟨rfl, ?_⟩) (by assumption) ?_; rotate_left; focus (intro W hSw; (try dsimp only at hSw); obtain ⟨hSb, hxC, hxA, hxR⟩ := hSw; obtain ⟨⟨iC0, iC1, iC2, iC3, iC4, iC5, iC6, iC7, iC8⟩, _, _⟩ := hxC; obtain ⟨⟨iA0, iA1, iA2⟩, _, _⟩ := hxA; obtain ⟨⟨iR0, iR1, iR2⟩, _, _⟩ := hxR; go_simp; try (with_reducible rfl))); (try simp only [Act.put, List.getElem_toArray, List.getElem_cons_succ, List.getElem_cons_zero, List.setIfInBounds_toArray, List.set_cons_zero, List.set_cons_succ])
        (refine wpAnyH_take (i := 12) (v := ?_) rfl (by kernel_rfl) (by kernel_rfl) (by kernel_rfl) (fun _ _ _ h => h) (Or.inl ⟨rfl, ?_⟩) (by assumption) ?_; rotate_left; focus (intro W hSw; (try dsimp only at hSw); obtain ⟨hSb, hxC, hxA, hxR⟩ := hSw; obtain ⟨⟨iC0, iC1, iC2, iC3, iC4, iC5, iC6, iC7, iC8⟩, _, _⟩ := hxC; obtain ⟨⟨iA0, iA1, iA2⟩, _, _⟩ := hxA; obtain ⟨⟨iR0, iR1, iR2⟩, _, _⟩ := hxR; go_simp; try (with_reducible rfl))); (try simp only [Act.put, List.getElem_toArray, List.getElem_cons_succ, List.getElem_cons_zero, List.setIfInBounds_toArray, List.set_cons_zero, List.set_cons_succ])
        refine wpAnyH_ready (rs := [13]) (by kernel_rfl) (by simp) ?_; refine AllReadyH.cons rfl (fun K hK => ?_) AllReadyH.nil
        go_simp; (go_at_call 51; refine (HE2.out _).mono ?_; rintro en ywr80x0 ⟨rfl, hb2⟩); have HO := Lib.hid (HO.out.below hb2); have HC := Lib.hid (HC.out.below hb2); have HA := Lib.hid (HA.out.below hb2); have HR := Lib.hid (HR.out.below hb2); refine hK.out _ _ ⟨below_after hb2 hHeld.1, HC.out, HA.out, HR.out⟩ (fun hHeld2 => ?_); clear hb2; (clear hHeld; rename _ => hHeld; clear hK K; have hHeld : (fun W => Below w.heap.size w W ∧ Bk9 W GC c0 c1 c2 c3 c4 c5 c6 c7 c8 ∧ Bk3 W GA a0 a1 a2 ∧ Bk3 W GR 0 0 0) _ := hHeld); (try simp only [Act.put, List.getElem_toArray, List.getElem_cons_succ, List.getElem_cons_zero, List.setIfInBounds_toArray, List.set_cons_zero, List.set_cons_succ])
        (refine wpAnyH_take (i := 14) (v := ?_) rfl (by kernel_rfl) (by kernel_rfl) (by kernel_rfl) (fun _ _ _ h => h) (Or.inl ⟨rfl, ?_⟩) (by assumption) ?_; rotate_left; focus (intro W hSw; (try dsimp only at hSw); obtain ⟨hSb, hxC, hxA, hxR⟩ := hSw; obtain ⟨⟨iC0, iC1, iC2, iC3, iC4, iC5, iC6, iC7, iC8⟩, _, _⟩ := hxC; obtain ⟨⟨iA0, iA1, iA2⟩, _, _⟩ := hxA; obtain ⟨⟨iR0, iR1, iR2⟩, _, _⟩ := hxR; go_simp; try (with_reducible rfl))); (try simp only [Act.put, List.getElem_toArray, List.getElem_cons_succ, List.getElem_cons_zero, List.setIfInBounds_toArray, List.set_cons_zero, List.set_cons_succ])
        (refine wpAnyH_take (i := 15) (v := ?_) rfl (by kernel_rfl) (by kernel_rfl) (by kernel_rfl) (fun _ _ _ h => h) (Or.inl ⟨rfl, ?_⟩) (by assumption) ?_; rotate_left; focus (intro W hSw; (try dsimp only at hSw); obtain ⟨hSb, hxC, hxA, hxR⟩ := hSw; obtain ⟨⟨iC0, iC1, iC2, iC3, iC4, iC5, iC6, iC7, iC8⟩, _, _⟩ := hxC; obtain ⟨⟨iA0, iA1, iA2⟩, _, _⟩ := hxA; obtain ⟨⟨iR0, iR1, iR2⟩, _, _⟩ := hxR; go_simp; try (with_reducible rfl))); (try simp only [Act.put, List.getElem_toArray, List.getElem_cons_succ, List.getElem_cons_zero, List.setIfInBounds_toArray, List.set_cons_zero, List.set_cons_succ])
        refine wpAnyH_ready (rs := [16]) (by kernel_rfl) (by simp) ?_; refine AllReadyH.cons rfl (fun K hK => ?_) AllReadyH.nil
        obtain ⟨⟨a0, a1, a2⟩, ⟨f0, f1, f2⟩, az⟩ := HO.out; go_simp; clear a0 f0 a1 f1 a2 f2 az
        have HC := Lib.hid (HC.out.far ⟨GO, 2, none⟩ (.int .i64 (-E2)) (by show GC ≠ GO; exact ne_C_O))
        have HA := Lib.hid (HA.out.far ⟨GO, 2, none⟩ (.int .i64 (-E2)) (by show GA ≠ GO; exact ne_A_O))
        have HR := Lib.hid (HR.out.far ⟨GO, 2, none⟩ (.int .i64 (-E2)) (by show GR ≠ GO; exact ne_R_O))
        have HO := Lib.hid (HO.out.set2 (-E2))
        refine hK.out _ _ ⟨(Below.setCell hHeld.1 (p := ⟨GO, 2, none⟩) le_O _), HC.out, HA.out, HR.out⟩ (fun hHeld2 => ?_); (clear hHeld; rename _ => hHeld; clear hK K; have hHeld : (fun W => Below w.heap.size w W ∧ Bk9 W GC c0 c1 c2 c3 c4 c5 c6 c7 c8 ∧ Bk3 W GA a0 a1 a2 ∧ Bk3 W GR 0 0 0) _ := hHeld); (try simp only [Act.put, List.getElem_toArray, List.getElem_cons_succ, List.getElem_cons_zero, List.setIfInBounds_toArray, List.set_cons_zero, List.set_cons_succ])
        obtain ⟨ywr80x1, hwx⟩ : ∃ wx, ywr80x0.setCell ⟨GO, 2, none⟩ (.int .i64 (-E2)) = wx := ⟨_, rfl⟩; rw [hwx] at HO HC HA HR hHeld ⊢; clear hwx
        refine wpAnyH_done (by kernel_rfl) ?_ _
        have HB := Lib.hid (hHeld.1)
        clear hHeld
        obtain ⟨⟨qO0, qO1, qO2⟩, ⟨fO0, fO1, fO2⟩, zO⟩ := HO.out
        obtain ⟨⟨qC0, qC1, qC2, qC3, qC4, qC5, qC6, qC7, qC8⟩, ⟨fC0, fC1, fC2, fC3, fC4, fC5, fC6, fC7, fC8⟩, zC⟩ := HC.out
        obtain ⟨⟨qA0, qA1, qA2⟩, ⟨fA0, fA1, fA2⟩, zA⟩ := HA.out
        obtain ⟨⟨qR0, qR1, qR2⟩, ⟨fR0, fR1, fR2⟩, zR⟩ := HR.out
        go_wp2_with fail
        clear qO0 fO0 qO1 fO1 qO2 fO2 zO qC0 fC0 qC1 fC1 qC2 fC2 qC3 fC3 qC4 fC4 qC5 fC5 qC6 fC6 qC7 fC7 qC8 fC8 zC qA0 fA0 qA1 fA1 qA2 fA2 zA qR0 fR0 qR1 fR1 qR2 fR2 zR
        go_roundw
        case rel => exact ⟨2 + 1, by first | rfl | go_num, by omega, HO.out, HC.out, HA.out, HR.out, HB.out⟩
        case measure => simp only [intOf]; omega
      · rw [show ((3 : Nat) : Int) = 3 from rfl]
        have HO : Hid (Bk3 wr GO (-E0) (-E1) (-E2)) := HO0.out
        clear HO0
        obtain ⟨ne_O_C, ne_O_A, ne_O_R, ne_C_O, ne_A_O, ne_R_O, le_O⟩ := HNE.out
        obtain ⟨⟨qO0, qO1, qO2⟩, ⟨fO0, fO1, fO2⟩, zO⟩ := HO.out
        obtain ⟨⟨qC0, qC1, qC2, qC3, qC4, qC5, qC6, qC7, qC8⟩, ⟨fC0, fC1, fC2, fC3, fC4, fC5, fC6, fC7, fC8⟩, zC⟩ := HC.out
        obtain ⟨⟨qA0, qA1, qA2⟩, ⟨fA0, fA1, fA2⟩, zA⟩ := HA.out
        obtain ⟨⟨qR0, qR1, qR2⟩, ⟨fR0, fR1, fR2⟩, zR⟩ := HR.out
        go_wp2_with fail
        refine bodyPost_ret (v := .agg #[.int .i64 (-E0), .int .i64 (-E1), .int .i64 (-E2)]) (by simp (maxDischargeDepth := 8) [results, Tryd.results59, go_sem, *]) rfl ?_
        have hb := HB.out
        exact ⟨by rw [HR0.out, HR1.out, HR2.out], by (repeat' (first | (with_reducible exact Below.refl _ _) | (with_reducible refine Below.alloc ?_ ?_ _) | (with_reducible refine Below.setCell ?_ ?_ _) | (with_reducible refine Below.drew ?_) | (with_reducible refine below_drewN ?_ _) | (with_reducible assumption) | (with_reducible refine below_after (by with_reducible assumption) ?_) | go_size))⟩
  · skip
    have HR0 : Hid (co0 c0 c1 c2 c3 c4 c5 c6 c7 c8 a0 a1 a2 = E0) := by show _ = _; unfold co0 sgV; rw [hD, if_neg hneg, hE0]; omega
    have HR1 : Hid (co1 c0 c1 c2 c3 c4 c5 c6 c7 c8 a0 a1 a2 = E1) := by show _ = _; unfold co1 sgV; rw [hD, if_neg hneg, hE1]; omega
    have HR2 : Hid (co2 c0 c1 c2 c3 c4 c5 c6 c7 c8 a0 a1 a2 = E2) := by show _ = _; unfold co2 sgV; rw [hD, if_neg hneg, hE2]; omega
    clear hE0 hE1 hE2 hD
    obtain ⟨GC, hG⟩ : ∃ G, w.heap.size = G := ⟨_, rfl⟩
    have HG := Lib.hid hG
    go_enter Tryd.func59, Tryd.ntmps59
    go_upto_region 1 with fail
    obtain ⟨w0, hw0⟩ : ∃ w0, w0 = (((w.alloc (.cells #[.int .i64 c0, .int .i64 c1, .int .i64 c2, .int .i64 c3, .int .i64 c4, .int .i64 c5, .int .i64 c6, .int .i64 c7, .int .i64 c8] 39)).alloc (.cells #[.int .i64 a0, .int .i64 a1, .int .i64 a2] 26)).alloc (.cells #[.int .i64 0, .int .i64 0, .int .i64 0] 26)) := ⟨_, rfl⟩
    rw [← hw0]
    have HC : Hid (Bk9 w0 GC c0 c1 c2 c3 c4 c5 c6 c7 c8) := by
      have h := (bk9_new w c0 c1 c2 c3 c4 c5 c6 c7 c8 39).below (W' := (((w.alloc (.cells #[.int .i64 c0, .int .i64 c1, .int .i64 c2, .int .i64 c3, .int .i64 c4, .int .i64 c5, .int .i64 c6, .int .i64 c7, .int .i64 c8] 39)).alloc (.cells #[.int .i64 a0, .int .i64 a1, .int .i64 a2] 26)).alloc (.cells #[.int .i64 0, .int .i64 0, .int .i64 0] 26))) (by (repeat' (first | (with_reducible exact Below.refl _ _) | (with_reducible refine Below.alloc ?_ ?_ _) | (with_reducible refine Below.setCell ?_ ?_ _) | (with_reducible refine Below.drew ?_) | (with_reducible refine below_drewN ?_ _) | (with_reducible assumption) | (with_reducible refine below_after (by with_reducible assumption) ?_) | go_size)))
      (try simp only [World.size_alloc] at h)
      rw [hG] at h
      rw [hw0]; exact h
    have HA : Hid (Bk3 w0 (GC + 1) a0 a1 a2) := by
      have h := (bk3_new (w.alloc (.cells #[.int .i64 c0, .int .i64 c1, .int .i64 c2, .int .i64 c3, .int .i64 c4, .int .i64 c5, .int .i64 c6, .int .i64 c7, .int .i64 c8] 39)) a0 a1 a2 26).below (W' := (((w.alloc (.cells #[.int .i64 c0, .int .i64 c1, .int .i64 c2, .int .i64 c3, .int .i64 c4, .int .i64 c5, .int .i64 c6, .int .i64 c7, .int .i64 c8] 39)).alloc (.cells #[.int .i64 a0, .int .i64 a1, .int .i64 a2] 26)).alloc (.cells #[.int .i64 0, .int .i64 0, .int .i64 0] 26))) (by (repeat' (first | (with_reducible exact Below.refl _ _) | (with_reducible refine Below.alloc ?_ ?_ _) | (with_reducible refine Below.setCell ?_ ?_ _) | (with_reducible refine Below.drew ?_) | (with_reducible refine below_drewN ?_ _) | (with_reducible assumption) | (with_reducible refine below_after (by with_reducible assumption) ?_) | go_size)))
      (try simp only [World.size_alloc] at h)
      rw [hG] at h
      rw [hw0]; exact h
    have HR : Hid (Bk3 w0 (GC + 1 + 1) 0 0 0) := by
      have h := (bk3_new ((w.alloc (.cells #[.int .i64 c0, .int .i64 c1, .int .i64 c2, .int .i64 c3, .int .i64 c4, .int .i64 c5, .int .i64 c6, .int .i64 c7, .int .i64 c8] 39)).alloc (.cells #[.int .i64 a0, .int .i64 a1, .int .i64 a2] 26)) 0 0 0 26).below (W' := (((w.alloc (.cells #[.int .i64 c0, .int .i64 c1, .int .i64 c2, .int .i64 c3, .int .i64 c4, .int .i64 c5, .int .i64 c6, .int .i64 c7, .int .i64 c8] 39)).alloc (.cells #[.int .i64 a0, .int .i64 a1, .int .i64 a2] 26)).alloc (.cells #[.int .i64 0, .int .i64 0, .int .i64 0] 26))) (by (repeat' (first | (with_reducible exact Below.refl _ _) | (with_reducible refine Below.alloc ?_ ?_ _) | (with_reducible refine Below.setCell ?_ ?_ _) | (with_reducible refine Below.drew ?_) | (with_reducible refine below_drewN ?_ _) | (with_reducible assumption) | (with_reducible refine below_after (by with_reducible assumption) ?_) | go_size)))
      (try simp only [World.size_alloc] at h)
      rw [hG] at h
      rw [hw0]; exact h
    have HB : Hid (Below w.heap.size w w0) := by show Below w.heap.size w w0; rw [hw0]; (repeat' (first | (with_reducible exact Below.refl _ _) | (with_reducible refine Below.alloc ?_ ?_ _) | (with_reducible refine Below.setCell ?_ ?_ _) | (with_reducible refine Below.drew ?_) | (with_reducible refine below_drewN ?_ _) | (with_reducible assumption) | (with_reducible refine below_after (by with_reducible assumption) ?_) | go_size))
    clear hw0
    obtain ⟨GR, hGR⟩ : ∃ g, GC + 1 + 1 = g := ⟨_, rfl⟩
    rw [hGR] at HR ⊢
    obtain ⟨GA, hGA⟩ : ∃ g, GC + 1 = g := ⟨_, rfl⟩
    rw [hGA] at HA ⊢
    have le_C : w.heap.size ≤ GC := by omega
    have le_A : w.heap.size ≤ GA := by omega
    have ne_A_C : GA ≠ GC := by omega
    have ne_C_A : GC ≠ GA := by omega
    have le_R : w.heap.size ≤ GR := by omega
    have ne_R_C : GR ≠ GC := by omega
    have ne_C_R : GC ≠ GR := by omega
    have ne_R_A : GR ≠ GA := by omega
    have ne_A_R : GA ≠ GR := by omega
    clear hGA hGR
    obtain ⟨⟨qC0, qC1, qC2, qC3, qC4, qC5, qC6, qC7, qC8⟩, ⟨fC0, fC1, fC2, fC3, fC4, fC5, fC6, fC7, fC8⟩, zC⟩ := HC.out
    obtain ⟨⟨qA0, qA1, qA2⟩, ⟨fA0, fA1, fA2⟩, zA⟩ := HA.out
    obtain ⟨⟨qR0, qR1, qR2⟩, ⟨fR0, fR1, fR2⟩, zR⟩ := HR.out
    go_upto_region 2 with fail
    obtain ⟨GO, hGO⟩ : ∃ g, w0.heap.size = g := ⟨_, rfl⟩
    obtain ⟨w1, hw1⟩ : ∃ wx, wx = w0.alloc (.cells #[.int .i64 0, .int .i64 0, .int .i64 0] 26) := ⟨_, rfl⟩
    rw [← hw1, hGO]
    have HO : Hid (Bk3 w1 GO 0 0 0) := by rw [hw1, ← hGO]; exact bk3_new w0 0 0 0 _
    have le_O : w.heap.size ≤ GO := by rw [← hGO]; exact HB.out.size
    have ne_O_C : GO ≠ GC := by have := HC.out.2.2; omega
    have ne_C_O : GC ≠ GO := Ne.symm ne_O_C
    have ne_O_A : GO ≠ GA := by have := HA.out.2.2; omega
    have ne_A_O : GA ≠ GO := Ne.symm ne_O_A
    have ne_O_R : GO ≠ GR := by have := HR.out.2.2; omega
    have ne_R_O : GR ≠ GO := Ne.symm ne_O_R
    clear qC0 fC0 qC1 fC1 qC2 fC2 qC3 fC3 qC4 fC4 qC5 fC5 qC6 fC6 qC7 fC7 qC8 fC8 zC qA0 fA0 qA1 fA1 qA2 fA2 zA qR0 fR0 qR1 fR1 qR2 fR2 zR
    have HC := Lib.hid (HC.out.below ((Below.refl _ _).alloc (Nat.le_refl _) (.cells #[.int .i64 0, .int .i64 0, .int .i64 0] 26)))
    have HA := Lib.hid (HA.out.below ((Below.refl _ _).alloc (Nat.le_refl _) (.cells #[.int .i64 0, .int .i64 0, .int .i64 0] 26)))
    have HR := Lib.hid (HR.out.below ((Below.refl _ _).alloc (Nat.le_refl _) (.cells #[.int .i64 0, .int .i64 0, .int .i64 0] 26)))
    have HB := Lib.hid (Below.alloc HB.out HB.out.size (.cells #[.int .i64 0, .int .i64 0, .int .i64 0] 26))
    rw [← hw1] at HC HA HR HB
    clear hw1 hGO
    obtain ⟨⟨qC0, qC1, qC2, qC3, qC4, qC5, qC6, qC7, qC8⟩, ⟨fC0, fC1, fC2, fC3, fC4, fC5, fC6, fC7, fC8⟩, zC⟩ := HC.out
    obtain ⟨⟨qA0, qA1, qA2⟩, ⟨fA0, fA1, fA2⟩, zA⟩ := HA.out
    obtain ⟨⟨qR0, qR1, qR2⟩, ⟨fR0, fR1, fR2⟩, zR⟩ := HR.out
    obtain ⟨⟨qO0, qO1, qO2⟩, ⟨fO0, fO1, fO2⟩, zO⟩ := HO.out
    go_wp2_with fail
    go_at_call 51
    refine (HD.out _).mono ?_
    rintro e w2 ⟨rfl, hb⟩
    clear qC0 fC0 qC1 fC1 qC2 fC2 qC3 fC3 qC4 fC4 qC5 fC5 qC6 fC6 qC7 fC7 qC8 fC8 zC qA0 fA0 qA1 fA1 qA2 fA2 zA qR0 fR0 qR1 fR1 qR2 fR2 zR qO0 fO0 qO1 fO1 qO2 fO2 zO
    have HC := Lib.hid (HC.out.below hb)
    have HA := Lib.hid (HA.out.below hb)
    have HR := Lib.hid (HR.out.below hb)
    have HO := Lib.hid (HO.out.below hb)
    have HB := Lib.hid (below_after hb HB.out)
    clear hb
    obtain ⟨⟨qC0, qC1, qC2, qC3, qC4, qC5, qC6, qC7, qC8⟩, ⟨fC0, fC1, fC2, fC3, fC4, fC5, fC6, fC7, fC8⟩, zC⟩ := HC.out
    obtain ⟨⟨qA0, qA1, qA2⟩, ⟨fA0, fA1, fA2⟩, zA⟩ := HA.out
    obtain ⟨⟨qR0, qR1, qR2⟩, ⟨fR0, fR1, fR2⟩, zR⟩ := HR.out
    obtain ⟨⟨qO0, qO1, qO2⟩, ⟨fO0, fO1, fO2⟩, zO⟩ := HO.out
    go_wp2_with fail
    clear qC0 fC0 qC1 fC1 qC2 fC2 qC3 fC3 qC4 fC4 qC5 fC5 qC6 fC6 qC7 fC7 qC8 fC8 zC qA0 fA0 qA1 fA1 qA2 fA2 zA qR0 fR0 qR1 fR1 qR2 fR2 zR qO0 fO0 qO1 fO1 qO2 fO2 zO
    have HNE : Hid (GO ≠ GC ∧ GO ≠ GA ∧ GO ≠ GR ∧ GC ≠ GO ∧ GA ≠ GO ∧ GR ≠ GO ∧ w.heap.size ≤ GO) := ⟨ne_O_C, ne_O_A, ne_O_R, ne_C_O, ne_A_O, ne_R_O, le_O⟩
    go_loopw [7] (fun y wr => ∃ i : Nat, y = .int .i64 (i : Int) ∧ i ≤ 3 ∧ (match i with | 0 => Bk3 wr GO 0 0 0 | 1 => Bk3 wr GO E0 0 0 | 2 => Bk3 wr GO E0 E1 0 | _ => Bk3 wr GO E0 E1 E2) ∧ Bk9 wr GC c0 c1 c2 c3 c4 c5 c6 c7 c8 ∧ Bk3 wr GA a0 a1 a2 ∧ Bk3 wr GR 0 0 0 ∧ Below w.heap.size w wr) (fun y _ => 3 - (intOf y).toNat)
    case atStart => exact ⟨0, rfl, by omega, HO.out, HC.out, HA.out, HR.out, HB.out⟩
    case round =>
      obtain ⟨i, rfl, hi, hO, hC, hA, hR, hbel⟩ := hrel
      clear HO HC HA HR HB
      have HO0 := Lib.hid hO
      have HC := Lib.hid hC
      have HA := Lib.hid hA
      have HR := Lib.hid hR
      have HB := Lib.hid hbel
      clear hO hC hA hR hbel
      rcases (show i = 0 ∨ i = 1 ∨ i = 2 ∨ i = 3 by omega) with rfl | rfl | rfl | rfl
      · rw [show ((0 : Nat) : Int) = 0 from rfl]
        have HO : Hid (Bk3 wr GO 0 0 0) := HO0.out
        clear HO0
        obtain ⟨ne_O_C, ne_O_A, ne_O_R, ne_C_O, ne_A_O, ne_R_O, le_O⟩ := HNE.out
        obtain ⟨⟨qO0, qO1, qO2⟩, ⟨fO0, fO1, fO2⟩, zO⟩ := HO.out
        obtain ⟨⟨qC0, qC1, qC2, qC3, qC4, qC5, qC6, qC7, qC8⟩, ⟨fC0, fC1, fC2, fC3, fC4, fC5, fC6, fC7, fC8⟩, zC⟩ := HC.out
        obtain ⟨⟨qA0, qA1, qA2⟩, ⟨fA0, fA1, fA2⟩, zA⟩ := HA.out
        obtain ⟨⟨qR0, qR1, qR2⟩, ⟨fR0, fR1, fR2⟩, zR⟩ := HR.out
        go_upto_region 7 with fail
        clear qO0 fO0 qO1 fO1 qO2 fO2 zO qC0 fC0 qC1 fC1 qC2 fC2 qC3 fC3 qC4 fC4 qC5 fC5 qC6 fC6 qC7 fC7 qC8 fC8 zC qA0 fA0 qA1 fA1 qA2 fA2 zA qR0 fR0 qR1 fR1 qR2 fR2 zR
        go_wp2_with fail
        refine wp_region_held_drew (S := fun W => Below w.heap.size w W ∧ Bk9 W GC c0 c1 c2 c3 c4 c5 c6 c7 c8 ∧ Bk3 W GA a0 a1 a2 ∧ Bk3 W GR 0 0 0) (by kernel_rfl) ?_ (fun hHeld => ?_); focus ((try dsimp only); exact ⟨Below.drew HB.out, HC.out.below (Below.drew (Below.refl _ _)), HA.out.below (Below.drew (Below.refl _ _)), HR.out.below (Below.drew (Below.refl _ _))⟩)
        have HO := Lib.hid (HO.out.below (Below.drew (Below.refl _ _)))
        have HC := Lib.hid (HC.out.below (Below.drew (Below.refl _ _)))
        have HA := Lib.hid (HA.out.below (Below.drew (Below.refl _ _)))
        have HR := Lib.hid (HR.out.below (Below.drew (Below.refl _ _)))
        have hHeld : (fun W => Below w.heap.size w W ∧ Bk9 W GC c0 c1 c2 c3 c4 c5 c6 c7 c8 ∧ Bk3 W GA a0 a1 a2 ∧ Bk3 W GR 0 0 0) _ := hHeld
        obtain ⟨wD40, hwD40⟩ : ∃ wD, wr.drew = wD := ⟨_, rfl⟩
        rw [hwD40] at hHeld HO HC HA HR ⊢
        clear hwD40
        (refine wpAnyH_take (i := 0) (v := ?_) rfl (by kernel_rfl) (by kernel_rfl) (by kernel_rfl) (fun _ _ _ h => h) (Or.inl ⟨rfl, ?_⟩) (by assumption) ?_; rotate_left; focus (intro W hSw; (try dsimp only at hSw); obtain ⟨hSb, hxC, hxA, hxR⟩ := hSw; obtain ⟨⟨iC0, iC1, iC2, iC3, iC4, iC5, iC6, iC7, iC8⟩, _, _⟩ := hxC; obtain ⟨⟨iA0, iA1, iA2⟩, _, _⟩ := hxA; obtain ⟨⟨iR0, iR1, iR2⟩, _, _⟩ := hxR; go_simp; try (with_reducible rfl))); (try simp only [Act.put, List.getElem_toArray, List.getElem_cons_succ, List.getElem_cons_zero, List.setIfInBounds_toArray, List.set_cons_zero, List.set_cons_succ])
        (refine wpAnyH_take (i := 1) (v := ?_) rfl (by kernel_rfl) (by kernel_rfl) (by kernel_rfl) (fun _ _ _ h => h) (Or.inl ⟨rfl, ?_⟩) (by assumption) ?_; rotate_left; focus (intro W hSw; (try dsimp only at hSw); obtain ⟨hSb, hxC, hxA, hxR⟩ := hSw; obtain ⟨⟨iC0, iC1, iC2, iC3, iC4, iC5, iC6, iC7, iC8⟩, _, _⟩ := hxC; obtain ⟨⟨iA0, iA1, iA2⟩, _, _⟩ := hxA; obtain ⟨⟨iR0, iR1, iR2⟩, _, _⟩ := hxR; go_simp; try (with_reducible rfl))); (try simp only [Act.put, List.getElem_toArray, List.getElem_cons_succ, List.getElem_cons_zero, List.setIfInBounds_toArray, List.set_cons_zero, List.set_cons_succ])
        (refine wpAnyH_take (i := 2) (v := ?_) rfl (by kernel_rfl) (by kernel_rfl) (by kernel_rfl) (fun _ _ _ h => h) (Or.inl ⟨rfl, ?_⟩) (by assumption) ?_; rotate_left; focus (intro W hSw; (try dsimp only at hSw); obtain ⟨hSb, hxC, hxA, hxR⟩ := hSw; obtain ⟨⟨iC0, iC1, iC2, iC3, iC4, iC5, iC6, iC7, iC8⟩, _, _⟩ := hxC; obtain ⟨⟨iA0, iA1, iA2⟩, _, _⟩ := hxA; obtain ⟨⟨iR0, iR1, iR2⟩, _, _⟩ := hxR; go_simp; try (with_reducible rfl))); (try simp only [Act.put, List.getElem_toArray, List.getElem_cons_succ, List.getElem_cons_zero, List.setIfInBounds_toArray, List.set_cons_zero, List.set_cons_succ])
        (refine wpAnyH_take (i := 3) (v := ?_) rfl (by kernel_rfl) (by kernel_rfl) (by kernel_rfl) (fun _ _ _ h => h) (Or.inl ⟨rfl, ?_⟩) (by assumption) ?_; rotate_left; focus (intro W hSw; (try dsimp only at hSw); obtain ⟨hSb, hxC, hxA, hxR⟩ := hSw; obtain ⟨⟨iC0, iC1, iC2, iC3, iC4, iC5, iC6, iC7, iC8⟩, _, _⟩ := hxC; obtain ⟨⟨iA0, iA1, iA2⟩, _, _⟩ := hxA; obtain ⟨⟨iR0, iR1, iR2⟩, _, _⟩ := hxR; go_simp; try (with_reducible rfl))); (try simp only [Act.put, List.getElem_toArray, List.getElem_cons_succ, List.getElem_cons_zero, List.setIfInBounds_toArray, List.set_cons_zero, List.set_cons_succ])
        (refine wpAnyH_take (i := 4) (v := ?_) rfl (by kernel_rfl) (by kernel_rfl) (by kernel_rfl) (fun _ _ _ h => h) (Or.inl ⟨rfl, ?_⟩) (by assumption) ?_; rotate_left; focus (intro W hSw; (try dsimp only at hSw); obtain ⟨hSb, hxC, hxA, hxR⟩ := hSw; obtain ⟨⟨iC0, iC1, iC2, iC3, iC4, iC5, iC6, iC7, iC8⟩, _, _⟩ := hxC; obtain ⟨⟨iA0, iA1, iA2⟩, _, _⟩ := hxA; obtain ⟨⟨iR0, iR1, iR2⟩, _, _⟩ := hxR; go_simp; try (with_reducible rfl))); (try simp only [Act.put, List.getElem_toArray, List.getElem_cons_succ, List.getElem_cons_zero, List.setIfInBounds_toArray, List.set_cons_zero, List.set_cons_succ])
        (refine wpAnyH_take (i := 5) (v := ?_) rfl (by kernel_rfl) (by kernel_rfl) (by kernel_rfl) (fun _ _ _ h => h) (Or.inl ⟨rfl, ?_⟩) (by assumption) ?_; rotate_left; focus (intro W hSw; (try dsimp only at hSw); obtain ⟨hSb, hxC, hxA, hxR⟩ := hSw; obtain ⟨⟨iC0, iC1, iC2, iC3, iC4, iC5, iC6, iC7, iC8⟩, _, _⟩ := hxC; obtain ⟨⟨iA0, iA1, iA2⟩, _, _⟩ := hxA; obtain ⟨⟨iR0, iR1, iR2⟩, _, _⟩ := hxR; go_simp; try (with_reducible rfl))); (try simp only [Act.put, List.getElem_toArray, List.getElem_cons_succ, List.getElem_cons_zero, List.setIfInBounds_toArray, List.set_cons_zero, List.set_cons_succ])
        (refine wpAnyH_take (i := 6) (v := ?_) rfl (by kernel_rfl) (by kernel_rfl) (by kernel_rfl) (fun _ _ _ h => h) (Or.inl ⟨rfl, ?_⟩) (by assumption) ?_; rotate_left; focus (intro W hSw; (try dsimp only at hSw); obtain ⟨hSb, hxC, hxA, hxR⟩ := hSw; obtain ⟨⟨iC0, iC1, iC2, iC3, iC4, iC5, iC6, iC7, iC8⟩, _, _⟩ := hxC; obtain ⟨⟨iA0, iA1, iA2⟩, _, _⟩ := hxA; obtain ⟨⟨iR0, iR1, iR2⟩, _, _⟩ := hxR; go_simp; try (with_reducible rfl))); (try simp only [Act.put, List.getElem_toArray, List.getElem_cons_succ, List.getElem_cons_zero, List.setIfInBounds_toArray, List.set_cons_zero, List.set_cons_succ])
        (refine wpAnyH_take (i := 7) (v := ?_) rfl (by kernel_rfl) (by kernel_rfl) (by kernel_rfl) (fun _ _ _ h => h) (Or.inl ⟨rfl, ?_⟩) (by assumption) ?_; rotate_left; focus (intro W hSw; (try dsimp only at hSw); obtain ⟨hSb, hxC, hxA, hxR⟩ := hSw; obtain ⟨⟨iC0, iC1, iC2, iC3, iC4, iC5, iC6, iC7, iC8⟩, _, _⟩ := hxC; obtain ⟨⟨iA0, iA1, iA2⟩, _, _⟩ := hxA; obtain ⟨⟨iR0, iR1, iR2⟩, _, _⟩ := hxR; go_simp; try (with_reducible rfl))); (try simp only [Act.put, List.getElem_toArray, List.getElem_cons_succ, List.getElem_cons_zero, List.setIfInBounds_toArray, List.set_cons_zero, List.set_cons_succ])
        (refine wpAnyH_take (i := 8) (v := ?_) rfl (by kernel_rfl) (by kernel_rfl) (by kernel_rfl) (fun _ _ _ h => h) (Or.inl ⟨rfl, ?_⟩) (by assumption) ?_; rotate_left; focus (intro W hSw; (try dsimp only at hSw); obtain ⟨hSb, hxC, hxA, hxR⟩ := hSw; obtain ⟨⟨iC0, iC1, iC2, iC3, iC4, iC5, iC6, iC7, iC8⟩, _, _⟩ := hxC; obtain ⟨⟨iA0, iA1, iA2⟩, _, _⟩ := hxA; obtain ⟨⟨iR0, iR1, iR2⟩, _, _⟩ := hxR; go_simp; try (with_reducible rfl))); (try simp only [Act.put, List.getElem_toArray, List.getElem_cons_succ, List.getElem_cons_zero, List.setIfInBounds_toArray, List.set_cons_zero, List.set_cons_succ])
        (refine wpAnyH_take (i := 9) (v := ?_) rfl (by kernel_rfl) (by kernel_rfl) (by kernel_rfl) (fun _ _ _ h => h) (Or.inl ⟨rfl, ?_⟩) (by assumption) ?_; rotate_left; focus (intro W hSw; (try dsimp only at hSw); obtain ⟨hSb, hxC, hxA, hxR⟩ := hSw; obtain ⟨⟨iC0, iC1, iC2, iC3, iC4, iC5, iC6, iC7, iC8⟩, _, _⟩ := hxC; obtain ⟨⟨iA0, iA1, iA2⟩, _, _⟩ := hxA; obtain ⟨⟨iR0, iR1, iR2⟩, _, _⟩ := hxR; go_simp; try (with_reducible rfl))); (try simp only [Act.put, List.getElem_toArray, List.getElem_cons_succ, List.getElem_cons_zero, List.setIfInBounds_toArray, List.set_cons_zero, List.set_cons_succ])
        (refine wpAnyH_take (i := 10) (v := ?_) rfl (by kernel_rfl) (by kernel_rfl) (by kernel_rfl) (fun _ _ _ h => h) (Or.inl ⟨rfl, ?_⟩) (by assumption) ?_; rotate_left; focus (intro W hSw; (try dsimp only at hSw); obtain ⟨hSb, hxC, hxA, hxR⟩ := hSw; obtain ⟨⟨iC0, iC1, iC2, iC3, iC4, iC5, iC6, iC7, iC8⟩, _, _⟩ := hxC; obtain ⟨⟨iA0, iA1, iA2⟩, _, _⟩ := hxA; obtain ⟨⟨iR0, iR1, iR2⟩, _, _⟩ := hxR; go_simp; try (with_reducible rfl))); (try simp only [Act.put, List.getElem_toArray, List.getElem_cons_succ, List.getElem_cons_zero, List.setIfInBounds_toArray, List.set_cons_zero, List.set_cons_succ])
        (refine wpAnyH_take (i := 11) (v := ?_) rfl (by kernel_rfl) (by kernel_rfl) (by kernel_rfl) (fun _ _ _ h => h) (Or.inl ⟨rfl, ?_⟩) (by assumption) ?_; rotate_left; focus (intro W hSw; (try dsimp only at hSw); obtain ⟨hSb, hxC, hxA, hxR⟩ := hSw; obtain ⟨⟨iC0, iC1, iC2, iC3, iC4, iC5, iC6, iC7, iC8⟩, _, _⟩ := hxC; obtain ⟨⟨iA0, iA1, iA2⟩, _, _⟩ := hxA; obtain ⟨⟨iR0, iR1, iR2⟩, _, _⟩ := hxR; go_simp; try (with_reducible rfl))); (try simp only [Act.put, List.getElem_toArray, List.getElem_cons_succ, List.getElem_cons_zero, List.setIfInBounds_toArray, List.set_cons_zero, List.set_cons_succ])
        (refine wpAnyH_take (i := 12) (v := ?_) rfl (by kernel_rfl) (by kernel_rfl) (by kernel_rfl) (fun _ _ _ h => h) (Or.inl ⟨rfl, ?_⟩) (by assumption) ?_; rotate_left; focus (intro W hSw; (try dsimp only at hSw); obtain ⟨hSb, hxC, hxA, hxR⟩ := hSw; obtain ⟨⟨iC0, iC1, iC2, iC3, iC4, iC5, iC6, iC7, iC8⟩, _, _⟩ := hxC; obtain ⟨⟨iA0, iA1, iA2⟩, _, _⟩ := hxA; obtain ⟨⟨iR0, iR1, iR2⟩, _, _⟩ := hxR; go_simp; try (with_reducible rfl))); (try simp only [Act.put, List.getElem_toArray, List.getElem_cons_succ, List.getElem_cons_zero, List.setIfInBounds_toArray, List.set_cons_zero, List.set_cons_succ])
        refine wpAnyH_ready (rs := [13]) (by kernel_rfl) (by simp) ?_; refine AllReadyH.cons rfl (fun K hK => ?_) AllReadyH.nil
        go_simp; (go_at_call 51; refine (HE0.out _).mono ?_; rintro en ywr40x0 ⟨rfl, hb2⟩); have HO := Lib.hid (HO.out.below hb2); have HC := Lib.hid (HC.out.below hb2); have HA := Lib.hid (HA.out.below hb2); have HR := Lib.hid (HR.out.below hb2); refine hK.out _ _ ⟨below_after hb2 hHeld.1, HC.out, HA.out, HR.out⟩ (fun hHeld2 => ?_); clear hb2; (clear hHeld; rename _ => hHeld; clear hK K; have hHeld : (fun W => Below w.heap.size w W ∧ Bk9 W GC c0 c1 c2 c3 c4 c5 c6 c7 c8 ∧ Bk3 W GA a0 a1 a2 ∧ Bk3 W GR 0 0 0) _ := hHeld); (try simp only [Act.put, List.getElem_toArray, List.getElem_cons_succ, List.getElem_cons_zero, List.setIfInBounds_toArray, List.set_cons_zero, List.set_cons_succ])
        (refine wpAnyH_take (i := 14) (v := ?_) rfl (by kernel_rfl) (by kernel_rfl) (by kernel_rfl) (fun _ _ _ h => h) (Or.inl ⟨rfl, ?_⟩) (by assumption) ?_; rotate_left; focus (intro W hSw; (try dsimp only at hSw); obtain ⟨hSb, hxC, hxA, hxR⟩ := hSw; obtain ⟨⟨iC0, iC1, iC2, iC3, iC4, iC5, iC6, iC7, iC8⟩, _, _⟩ := hxC; obtain ⟨⟨iA0, iA1, iA2⟩, _, _⟩ := hxA; obtain ⟨⟨iR0, iR1, iR2⟩, _, _⟩ := hxR; go_simp; try (with_reducible rfl))); (try simp only [Act.put, List.getElem_toArray, List.getElem_cons_succ, List.getElem_cons_zero, List.setIfInBounds_toArray, List.set_cons_zero, List.set_cons_succ])
        (refine wpAnyH_take (i := 15) (v := ?_) rfl (by kernel_rfl) (by kernel_rfl) (by kernel_rfl) (fun _ _ _ h => h) (Or.inl ⟨rfl, ?_⟩) (by assumption) ?_; rotate_left; focus (intro W hSw; (try dsimp only at hSw); obtain ⟨hSb, hxC, hxA, hxR⟩ := hSw; obtain ⟨⟨iC0, iC1, iC2, iC3, iC4, iC5, iC6, iC7, iC8⟩, _, _⟩ := hxC; obtain ⟨⟨iA0, iA1, iA2⟩, _, _⟩ := hxA; obtain ⟨⟨iR0, iR1, iR2⟩, _, _⟩ := hxR; go_simp; try (with_reducible rfl))); (try simp only [Act.put, List.getElem_toArray, List.getElem_cons_succ, List.getElem_cons_zero, List.setIfInBounds_toArray, List.set_cons_zero, List.set_cons_succ])
        refine wpAnyH_ready (rs := [16]) (by kernel_rfl) (by simp) ?_; refine AllReadyH.cons rfl (fun K hK => ?_) AllReadyH.nil
        obtain ⟨⟨a0, a1, a2⟩, ⟨f0, f1, f2⟩, az⟩ := HO.out; go_simp; clear a0 f0 a1 f1 a2 f2 az
        have HC := Lib.hid (HC.out.far ⟨GO, 0, none⟩ (.int .i64 E0) (by show GC ≠ GO; exact ne_C_O))
        have HA := Lib.hid (HA.out.far ⟨GO, 0, none⟩ (.int .i64 E0) (by show GA ≠ GO; exact ne_A_O))
        have HR := Lib.hid (HR.out.far ⟨GO, 0, none⟩ (.int .i64 E0) (by show GR ≠ GO; exact ne_R_O))
        have HO := Lib.hid (HO.out.set0 E0)
        refine hK.out _ _ ⟨(Below.setCell hHeld.1 (p := ⟨GO, 0, none⟩) le_O _), HC.out, HA.out, HR.out⟩ (fun hHeld2 => ?_); (clear hHeld; rename _ => hHeld; clear hK K; have hHeld : (fun W => Below w.heap.size w W ∧ Bk9 W GC c0 c1 c2 c3 c4 c5 c6 c7 c8 ∧ Bk3 W GA a0 a1 a2 ∧ Bk3 W GR 0 0 0) _ := hHeld); (try simp only [Act.put, List.getElem_toArray, List.getElem_cons_succ, List.getElem_cons_zero, List.setIfInBounds_toArray, List.set_cons_zero, List.set_cons_succ])
        obtain ⟨ywr40x1, hwx⟩ : ∃ wx, ywr40x0.setCell ⟨GO, 0, none⟩ (.int .i64 E0) = wx := ⟨_, rfl⟩; rw [hwx] at HO HC HA HR hHeld ⊢; clear hwx
        refine wpAnyH_done (by kernel_rfl) ?_ _
        have HB := Lib.hid (hHeld.1)
        clear hHeld
        obtain ⟨⟨qO0, qO1, qO2⟩, ⟨fO0, fO1, fO2⟩, zO⟩ := HO.out
        obtain ⟨⟨qC0, qC1, qC2, qC3, qC4, qC5, qC6, qC7, qC8⟩, ⟨fC0, fC1, fC2, fC3, fC4, fC5, fC6, fC7, fC8⟩, zC⟩ := HC.out
        obtain ⟨⟨qA0, qA1, qA2⟩, ⟨fA0, fA1, fA2⟩, zA⟩ := HA.out
        obtain ⟨⟨qR0, qR1, qR2⟩, ⟨fR0, fR1, fR2⟩, zR⟩ := HR.out
        go_wp2_with fail
        clear qO0 fO0 qO1 fO1 qO2 fO2 zO qC0 fC0 qC1 fC1 qC2 fC2 qC3 fC3 qC4 fC4 qC5 fC5 qC6 fC6 qC7 fC7 qC8 fC8 zC qA0 fA0 qA1 fA1 qA2 fA2 zA qR0 fR0 qR1 fR1 qR2 fR2 zR
        go_roundw
        case rel => exact ⟨0 + 1, by first | rfl | go_num, by omega, HO.out, HC.out, HA.out, HR.out, HB.out⟩
        case measure => simp only [intOf]; omega
      · rw [show ((1 : Nat) : Int) = 1 from rfl]
        have HO : Hid (Bk3 wr GO E0 0 0) := HO0.out
        clear HO0
        obtain ⟨ne_O_C, ne_O_A, ne_O_R, ne_C_O, ne_A_O, ne_R_O, le_O⟩ := HNE.out
        obtain ⟨⟨qO0, qO1, qO2⟩, ⟨fO0, fO1, fO2⟩, zO⟩ := HO.out
        obtain ⟨⟨qC0, qC1, qC2, qC3, qC4, qC5, qC6, qC7, qC8⟩, ⟨fC0, fC1, fC2, fC3, fC4, fC5, fC6, fC7, fC8⟩, zC⟩ := HC.out
        obtain ⟨⟨qA0, qA1, qA2⟩, ⟨fA0, fA1, fA2⟩, zA⟩ := HA.out
        obtain ⟨⟨qR0, qR1, qR2⟩, ⟨fR0, fR1, fR2⟩, zR⟩ := HR.out
        go_upto_region 7 with fail
        clear qO0 fO0 qO1 fO1 qO2 fO2 zO qC0 fC0 qC1 fC1 qC2 fC2 qC3 fC3 qC4 fC4 qC5 fC5 qC6 fC6 qC7 fC7 qC8 fC8 zC qA0 fA0 qA1 fA1 qA2 fA2 zA qR0 fR0 qR1 fR1 qR2 fR2 zR
        go_wp2_with fail
        refine wp_region_held_drew (S := fun W => Below w.heap.size w W ∧ Bk9 W GC c0 c1 c2 c3 c4 c5 c6 c7 c8 ∧ Bk3 W GA a0 a1 a2 ∧ Bk3 W GR 0 0 0) (by kernel_rfl) ?_ (fun hHeld => ?_); focus ((try dsimp only); exact ⟨Below.drew HB.out, HC.out.below (Below.drew (Below.refl _ _)), HA.out.below (Below.drew (Below.refl _ _)), HR.out.below (Below.drew (Below.refl _ _))⟩)
        have HO := Lib.hid (HO.out.below (Below.drew (Below.refl _ _)))
        have HC := Lib.hid (HC.out.below (Below.drew (Below.refl _ _)))
        have HA := Lib.hid (HA.out.below (Below.drew (Below.refl _ _)))
        have HR := Lib.hid (HR.out.below (Below.drew (Below.refl _ _)))
        have hHeld : (fun W => Below w.heap.size w W ∧ Bk9 W GC c0 c1 c2 c3 c4 c5 c6 c7 c8 ∧ Bk3 W GA a0 a1 a2 ∧ Bk3 W GR 0 0 0) _ := hHeld
        obtain ⟨wD60, hwD60⟩ : ∃ wD, wr.drew = wD := ⟨_, rfl⟩
        rw [hwD60] at hHeld HO HC HA HR ⊢
        clear hwD60
        (refine wpAnyH_take (i := 0) (v := ?_) rfl (by kernel_rfl) (by kernel_rfl) (by kernel_rfl) (fun _ _ _ h => h) (Or.inl ⟨rfl, ?_⟩) (by assumption) ?_; rotate_left; focus (intro W hSw; (try dsimp only at hSw); obtain ⟨hSb, hxC, hxA, hxR⟩ := hSw; obtain ⟨⟨iC0, iC1, iC2, iC3, iC4, iC5, iC6, iC7, iC8⟩, _, _⟩ := hxC; obtain ⟨⟨iA0, iA1, iA2⟩, _, _⟩ := hxA; obtain ⟨⟨iR0, iR1, iR2⟩, _, _⟩ := hxR; go_simp; try (with_reducible rfl))); (try simp only [Act.put, List.getElem_toArray, List.getElem_cons_succ, List.getElem_cons_zero, List.setIfInBounds_toArray, List.set_cons_zero, List.set_cons_succ])
        (refine wpAnyH_take (i := 1) (v := ?_) rfl (by kernel_rfl) (by kernel_rfl) (by kernel_rfl) (fun _ _ _ h => h) (Or.inl ⟨rfl, ?_⟩) (by assumption) ?_; rotate_left; focus (intro W hSw; (try dsimp only at hSw); obtain ⟨hSb, hxC, hxA, hxR⟩ := hSw; obtain ⟨⟨iC0, iC1, iC2, iC3, iC4, iC5, iC6, iC7, iC8⟩, _, _⟩ := hxC; obtain ⟨⟨iA0, iA1, iA2⟩, _, _⟩ := hxA; obtain ⟨⟨iR0, iR1, iR2⟩, _, _⟩ := hxR; go_simp; try (with_reducible rfl))); (try simp only [Act.put, List.getElem_toArray, List.getElem_cons_succ, List.getElem_cons_zero, List.setIfInBounds_toArray, List.set_cons_zero, List.set_cons_succ])
        (refine wpAnyH_take (i := 2) (v := ?_) rfl (by kernel_rfl) (by kernel_rfl) (by kernel_rfl) (fun _ _ _ h => h) (Or.inl ⟨rfl, ?_⟩) (by assumption) ?_; rotate_left; focus (intro W hSw; (try dsimp only at hSw); obtain ⟨hSb, hxC, hxA, hxR⟩ := hSw; obtain ⟨⟨iC0, iC1, iC2, iC3, iC4, iC5, iC6, iC7, iC8⟩, _, _⟩ := hxC; obtain ⟨⟨iA0, iA1, iA2⟩, _, _⟩ := hxA; obtain ⟨⟨iR0, iR1, iR2⟩, _, _⟩ := hxR; go_simp; try (with_reducible rfl))); (try simp only [Act.put, List.getElem_toArray, List.getElem_cons_succ, List.getElem_cons_zero, List.setIfInBounds_toArray, List.set_cons_zero, List.set_cons_succ])
        (refine wpAnyH_take (i := 3) (v := ?_) rfl (by kernel_rfl) (by kernel_rfl) (by kernel_rfl) (fun _ _ _ h => h) (Or.inl ⟨rfl, ?_⟩) (by assumption) ?_; rotate_left; focus (intro W hSw; (try dsimp only at hSw); obtain ⟨hSb, hxC, hxA, hxR⟩ := hSw; obtain ⟨⟨iC0, iC1, iC2, iC3, iC4, iC5, iC6, iC7, iC8⟩, _, _⟩ := hxC; obtain ⟨⟨iA0, iA1, iA2⟩, _, _⟩ := hxA; obtain ⟨⟨iR0, iR1, iR2⟩, _, _⟩ := hxR; go_simp; try (with_reducible rfl))); (try simp only [Act.put, List.getElem_toArray, List.getElem_cons_succ, List.getElem_cons_zero, List.setIfInBounds_toArray, List.set_cons_zero, List.set_cons_succ])
        (refine wpAnyH_take (i := 4) (v := ?_) rfl (by kernel_rfl) (by kernel_rfl) (by kernel_rfl) (fun _ _ _ h => h) (Or.inl ⟨rfl, ?_⟩) (by assumption) ?_; rotate_left; focus (intro W hSw; (try dsimp only at hSw); obtain ⟨hSb, hxC, hxA, hxR⟩ := hSw; obtain ⟨⟨iC0, iC1, iC2, iC3, iC4, iC5, iC6, iC7, iC8⟩, _, _⟩ := hxC; obtain ⟨⟨iA0, iA1, iA2⟩, _, _⟩ := hxA; obtain ⟨⟨iR0, iR1, iR2⟩, _, _⟩ := hxR; go_simp; try (with_reducible rfl))); (try simp only [Act.put, List.getElem_toArray, List.getElem_cons_succ, List.getElem_cons_zero, List.setIfInBounds_toArray, List.set_cons_zero, List.set_cons_succ])
        (refine wpAnyH_take (i := 5) (v := ?_) rfl (by kernel_rfl) (by kernel_rfl) (by kernel_rfl) (fun _ _ _ h => h) (Or.inl ⟨rfl, ?_⟩) (by assumption) ?_; rotate_left; focus (intro W hSw; (try dsimp only at hSw); obtain ⟨hSb, hxC, hxA, hxR⟩ := hSw; obtain ⟨⟨iC0, iC1, iC2, iC3, iC4, iC5, iC6, iC7, iC8⟩, _, _⟩ := hxC; obtain ⟨⟨iA0, iA1, iA2⟩, _, _⟩ := hxA; obtain ⟨⟨iR0, iR1, iR2⟩, _, _⟩ := hxR; go_simp; try (with_reducible rfl))); (try simp only [Act.put, List.getElem_toArray, List.getElem_cons_succ, List.getElem_cons_zero, List.setIfInBounds_toArray, List.set_cons_zero, List.set_cons_succ])
        (refine wpAnyH_take (i := 6) (v := ?_) rfl (by kernel_rfl) (by kernel_rfl) (by kernel_rfl) (fun _ _ _ h => h) (Or.inl ⟨rfl, ?_⟩) (by assumption) ?_; rotate_left; focus (intro W hSw; (try dsimp only at hSw); obtain ⟨hSb, hxC, hxA, hxR⟩ := hSw; obtain ⟨⟨iC0, iC1, iC2, iC3, iC4, iC5, iC6, iC7, iC8⟩, _, _⟩ := hxC; obtain ⟨⟨iA0, iA1, iA2⟩, _, _⟩ := hxA; obtain ⟨⟨iR0, iR1, iR2⟩, _, _⟩ := hxR; go_simp; try (with_reducible rfl))); (try simp only [Act.put, List.getElem_toArray, List.getElem_cons_succ, List.getElem_cons_zero, List.setIfInBounds_toArray, List.set_cons_zero, List.set_cons_succ])
        (refine wpAnyH_take (i := 7) (v := ?_) rfl (by kernel_rfl) (by kernel_rfl) (by kernel_rfl) (fun _ _ _ h => h) (Or.inl ⟨rfl, ?_⟩) (by assumption) ?_; rotate_left; focus (intro W hSw; (try dsimp only at hSw); obtain ⟨hSb, hxC, hxA, hxR⟩ := hSw; obtain ⟨⟨iC0, iC1, iC2, iC3, iC4, iC5, iC6, iC7, iC8⟩, _, _⟩ := hxC; obtain ⟨⟨iA0, iA1, iA2⟩, _, _⟩ := hxA; obtain ⟨⟨iR0, iR1, iR2⟩, _, _⟩ := hxR; go_simp; try (with_reducible rfl))); (try simp only [Act.put, List.getElem_toArray, List.getElem_cons_succ, List.getElem_cons_zero, List.setIfInBounds_toArray, List.set_cons_zero, List.set_cons_succ])
        (refine wpAnyH_take (i := 8) (v := ?_) rfl (by kernel_rfl) (by kernel_rfl) (by kernel_rfl) (fun _ _ _ h => h) (Or.inl ⟨rfl, ?_⟩) (by assumption) ?_; rotate_left; focus (intro W hSw; (try dsimp only at hSw); obtain ⟨hSb, hxC, hxA, hxR⟩ := hSw; obtain ⟨⟨iC0, iC1, iC2, iC3, iC4, iC5, iC6, iC7, iC8⟩, _, _⟩ := hxC; obtain ⟨⟨iA0, iA1, iA2⟩, _, _⟩ := hxA; obtain ⟨⟨iR0, iR1, iR2⟩, _, _⟩ := hxR; go_simp; try (with_reducible rfl))); (try simp only [Act.put, List.getElem_toArray, List.getElem_cons_succ, List.getElem_cons_zero, List.setIfInBounds_toArray, List.set_cons_zero, List.set_cons_succ])
        (refine wpAnyH_take (i := 9) (v := ?_) rfl (by kernel_rfl) (by kernel_rfl) (by kernel_rfl) (fun _ _ _ h => h) (Or.inl ⟨rfl, ?_⟩) (by assumption) ?_; rotate_left; focus (intro W hSw; (try dsimp only at hSw); obtain ⟨hSb, hxC, hxA, hxR⟩ := hSw; obtain ⟨⟨iC0, iC1, iC2, iC3, iC4, iC5, iC6, iC7, iC8⟩, _, _⟩ := hxC; obtain ⟨⟨iA0, iA1, iA2⟩, _, _⟩ := hxA; obtain ⟨⟨iR0, iR1, iR2⟩, _, _⟩ := hxR; go_simp; try (with_reducible rfl))); (try simp only [Act.put, List.getElem_toArray, List.getElem_cons_succ, List.getElem_cons_zero, List.setIfInBounds_toArray, List.set_cons_zero, List.set_cons_succ])
        (refine wpAnyH_take (i := 10) (v := ?_) rfl (by kernel_rfl) (by kernel_rfl) (by kernel_rfl) (fun _ _ _ h => h) (Or.inl ⟨rfl, ?_⟩) (by assumption) ?_; rotate_left; focus (intro W hSw; (try dsimp only at hSw); obtain ⟨hSb, hxC, hxA, hxR⟩ := hSw; obtain ⟨⟨iC0, iC1, iC2, iC3, iC4, iC5, iC6, iC7, iC8⟩, _, _⟩ := hxC; obtain ⟨⟨iA0, iA1, iA2⟩, _, _⟩ := hxA; obtain ⟨⟨iR0, iR1, iR2⟩, _, _⟩ := hxR; go_simp; try (with_reducible rfl))); (try simp only [Act.put, List.getElem_toArray, List.getElem_cons_succ, List.getElem_cons_zero, List.setIfInBounds_toArray, List.set_cons_zero, List.set_cons_succ])
        (refine wpAnyH_take (i := 11) (v := ?_) rfl (by kernel_rfl) (by kernel_rfl) (by kernel_rfl) (fun _ _ _ h => h) (Or.inl ⟨rfl, ?_⟩) (by assumption) ?_; rotate_left; focus (intro W hSw; (try dsimp only at hSw); obtain ⟨hSb, hxC, hxA, hxR⟩ := hSw; obtain ⟨⟨iC0, iC1, iC2, iC3, iC4, iC5, iC6, iC7, iC8⟩, _, _⟩ := hxC; obtain ⟨⟨iA0, iA1, iA2⟩, _, _⟩ := hxA; obtain ⟨⟨iR0, iR1, iR2⟩, _, _⟩ := hxR; go_simp; try (with_reducible rfl))); (try simp only [Act.put, List.getElem_toArray, List.getElem_cons_succ, List.getElem_cons_zero, List.setIfInBounds_toArray, List.set_cons_zero, List.set_cons_succ])
        (refine wpAnyH_take (i := 12) (v := ?_) rfl (by kernel_rfl) (by kernel_rfl) (by kernel_rfl) (fun _ _ _ h => h) (Or.inl ⟨rfl, ?_⟩) (by assumption) ?_; rotate_left; focus (intro W hSw; (try dsimp only at hSw); obtain ⟨hSb, hxC, hxA, hxR⟩ := hSw; obtain ⟨⟨iC0, iC1, iC2, iC3, iC4, iC5, iC6, iC7, iC8⟩, _, _⟩ := hxC; obtain ⟨⟨iA0, iA1, iA2⟩, _, _⟩ := hxA; obtain ⟨⟨iR0, iR1, iR2⟩, _, _⟩ := hxR; go_simp; try (with_reducible rfl))); (try simp only [Act.put, List.getElem_toArray, List.getElem_cons_succ, List.getElem_cons_zero, List.setIfInBounds_toArray, List.set_cons_zero, List.set_cons_succ])
        refine wpAnyH_ready (rs := [13]) (by kernel_rfl) (by simp) ?_; refine AllReadyH.cons rfl (fun K hK => ?_) AllReadyH.nil
        go_simp; (go_at_call 51; refine (HE1.out _).mono ?_; rintro en ywr60x0 ⟨rfl, hb2⟩); have HO := Lib.hid (HO.out.below hb2); have HC := Lib.hid (HC.out.below hb2); have HA := Lib.hid (HA.out.below hb2); have HR := Lib.hid (HR.out.below hb2); refine hK.out _ _ ⟨below_after hb2 hHeld.1, HC.out, HA.out, HR.out⟩ (fun hHeld2 => ?_); clear hb2; (clear hHeld; rename _ => hHeld; clear hK K; have hHeld : (fun W => Below w.heap.size w W ∧ Bk9 W GC c0 c1 c2 c3 c4 c5 c6 c7 c8 ∧ Bk3 W GA a0 a1 a2 ∧ Bk3 W GR 0 0 0) _ := hHeld); (try simp only [Act.put, List.getElem_toArray, List.getElem_cons_succ, List.getElem_cons_zero, List.setIfInBounds_toArray, List.set_cons_zero, List.set_cons_succ])
        (refine wpAnyH_take (i := 14) (v := ?_) rfl (by kernel_rfl) (by kernel_rfl) (by kernel_rfl) (fun _ _ _ h => h) (Or.inl ⟨rfl, ?_⟩) (by assumption) ?_; rotate_left; focus (intro W hSw; (try dsimp only at hSw); obtain ⟨hSb, hxC, hxA, hxR⟩ := hSw; obtain ⟨⟨iC0, iC1, iC2, iC3, iC4, iC5, iC6, iC7, iC8⟩, _, _⟩ := hxC; obtain ⟨⟨iA0, iA1, iA2⟩, _, _⟩ := hxA; obtain ⟨⟨iR0, iR1, iR2⟩, _, _⟩ := hxR; go_simp; try (with_reducible rfl))); (try simp only [Act.put, List.getElem_toArray, List.getElem_cons_succ, List.getElem_cons_zero, List.setIfInBounds_toArray, List.set_cons_zero, List.set_cons_succ])
        (refine wpAnyH_take (i := 15) (v := ?_) rfl (by kernel_rfl) (by kernel_rfl) (by kernel_rfl) (fun _ _ _ h => h) (Or.inl ⟨rfl, ?_⟩) (by assumption) ?_; rotate_left; focus (intro W hSw; (try dsimp only at hSw); obtain ⟨hSb, hxC, hxA, hxR⟩ := hSw; obtain ⟨⟨iC0, iC1, iC2, iC3, iC4, iC5, iC6, iC7, iC8⟩, _, _⟩ := hxC; obtain ⟨⟨iA0, iA1, iA2⟩, _, _⟩ := hxA; obtain ⟨⟨iR0, iR1, iR2⟩, _, _⟩ := hxR; go_simp; try (with_reducible rfl))); (try simp only [Act.put, List.getElem_toArray, List.getElem_cons_succ, List.getElem_cons_zero, List.setIfInBounds_toArray, List.set_cons_zero, List.set_cons_succ])
        refine wpAnyH_ready (rs := [16]) (by kernel_rfl) (by simp) ?_; refine AllReadyH.cons rfl (fun K hK => ?_) AllReadyH.nil
        obtain ⟨⟨a0, a1, a2⟩, ⟨f0, f1, f2⟩, az⟩ := HO.out; go_simp; clear a0 f0 a1 f1 a2 f2 az
        have HC := Lib.hid (HC.out.far ⟨GO, 1, none⟩ (.int .i64 E1) (by show GC ≠ GO; exact ne_C_O))
        have HA := Lib.hid (HA.out.far ⟨GO, 1, none⟩ (.int .i64 E1) (by show GA ≠ GO; exact ne_A_O))
        have HR := Lib.hid (HR.out.far ⟨GO, 1, none⟩ (.int .i64 E1) (by show GR ≠ GO; exact ne_R_O))
        have HO := Lib.hid (HO.out.set1 E1)
        refine hK.out _ _ ⟨(Below.setCell hHeld.1 (p := ⟨GO, 1, none⟩) le_O _), HC.out, HA.out, HR.out⟩ (fun hHeld2 => ?_); (clear hHeld; rename _ => hHeld; clear hK K; have hHeld : (fun W => Below w.heap.size w W ∧ Bk9 W GC c0 c1 c2 c3 c4 c5 c6 c7 c8 ∧ Bk3 W GA a0 a1 a2 ∧ Bk3 W GR 0 0 0) _ := hHeld); (try simp only [Act.put, List.getElem_toArray, List.getElem_cons_succ, List.getElem_cons_zero, List.setIfInBounds_toArray, List.set_cons_zero, List.set_cons_succ])
        obtain ⟨ywr60x1, hwx⟩ : ∃ wx, ywr60x0.setCell ⟨GO, 1, none⟩ (.int .i64 E1) = wx := ⟨_, rfl⟩; rw [hwx] at HO HC HA HR hHeld ⊢; clear hwx
        refine wpAnyH_done (by kernel_rfl) ?_ _
        have HB := Lib.hid (hHeld.1)
        clear hHeld
        obtain ⟨⟨qO0, qO1, qO2⟩, ⟨fO0, fO1, fO2⟩, zO⟩ := HO.out
        obtain ⟨⟨qC0, qC1, qC2, qC3, qC4, qC5, qC6, qC7, qC8⟩, ⟨fC0, fC1, fC2, fC3, fC4, fC5, fC6, fC7, fC8⟩, zC⟩ := HC.out
        obtain ⟨⟨qA0, qA1, qA2⟩, ⟨fA0, fA1, fA2⟩, zA⟩ := HA.out
        obtain ⟨⟨qR0, qR1, qR2⟩, ⟨fR0, fR1, fR2⟩, zR⟩ := HR.out
        go_wp2_with fail
        clear qO0 fO0 qO1 fO1 qO2 fO2 zO qC0 fC0 qC1 fC1 qC2 fC2 qC3 fC3 qC4 fC4 qC5 fC5 qC6 fC6 qC7 fC7 qC8 fC8 zC qA0 fA0 qA1 fA1 qA2 fA2 zA qR0 fR0 qR1 fR1 qR2 fR2 zR
        go_roundw
        case rel => exact ⟨1 + 1, by first | rfl | go_num, by omega, HO.out, HC.out, HA.out, HR.out, HB.out⟩
        case measure => simp only [intOf]; omega
      · rw [show ((2 : Nat) : Int) = 2 from rfl]
        have HO : Hid (Bk3 wr GO E0 E1 0) := HO0.out
        clear HO0
        obtain ⟨ne_O_C, ne_O_A, ne_O_R, ne_C_O, ne_A_O, ne_R_O, le_O⟩ := HNE.out
        obtain ⟨⟨qO0, qO1, qO2⟩, ⟨fO0, fO1, fO2⟩, zO⟩ := HO.out
        obtain ⟨⟨qC0, qC1, qC2, qC3, qC4, qC5, qC6, qC7, qC8⟩, ⟨fC0, fC1, fC2, fC3, fC4, fC5, fC6, fC7, fC8⟩, zC⟩ := HC.out
        obtain ⟨⟨qA0, qA1, qA2⟩, ⟨fA0, fA1, fA2⟩, zA⟩ := HA.out
        obtain ⟨⟨qR0, qR1, qR2⟩, ⟨fR0, fR1, fR2⟩, zR⟩ := HR.out
        go_upto_region 7 with fail
        clear qO0 fO0 qO1 fO1 qO2 fO2 zO qC0 fC0 qC1 fC1 qC2 fC2 qC3 fC3 qC4 fC4 qC5 fC5 qC6 fC6 qC7 fC7 qC8 fC8 zC qA0 fA0 qA1 fA1 qA2 fA2 zA qR0 fR0 qR1 fR1 qR2 fR2 zR
        go_wp2_with fail
        refine wp_region_held_drew (S := fun W => Below w.heap.size w W ∧ Bk9 W GC c0 c1 c2 c3 c4 c5 c6 c7 c8 ∧ Bk3 W GA a0 a1 a2 ∧ Bk3 W GR 0 0 0) (by kernel_rfl) ?_ (fun hHeld => ?_); focus ((try dsimp only); exact ⟨Below.drew HB.out, HC.out.below (Below.drew (Below.refl _ _)), HA.out.below (Below.drew (Below.refl _ _)), HR.out.below (Below.drew (Below.refl _ _))⟩)
        have HO := Lib.hid (HO.out.below (Below.drew (Below.refl _ _)))
        have HC := Lib.hid (HC.out.below (Below.drew (Below.refl _ _)))
        have HA := Lib.hid (HA.out.below (Below.drew (Below.refl _ _)))
        have HR := Lib.hid (HR.out.below (Below.drew (Below.refl _ _)))
        have hHeld : (fun W => Below w.heap.size w W ∧ Bk9 W GC c0 c1 c2 c3 c4 c5 c6 c7 c8 ∧ Bk3 W GA a0 a1 a2 ∧ Bk3 W GR 0 0 0) _ := hHeld
        obtain ⟨wD80, hwD80⟩ : ∃ wD, wr.drew = wD := ⟨_, rfl⟩
        rw [hwD80] at hHeld HO HC HA HR ⊢
        clear hwD80
        (refine wpAnyH_take (i := 0) (v := ?_) rfl (by kernel_rfl) (by kernel_rfl) (by kernel_rfl) (fun _ _ _ h => h) (Or.inl ⟨rfl, ?_⟩) (by assumption) ?_; rotate_left; focus (intro W hSw; (try dsimp only at hSw); obtain ⟨hSb, hxC, hxA, hxR⟩ := hSw; obtain ⟨⟨iC0, iC1, iC2, iC3, iC4, iC5, iC6, iC7, iC8⟩, _, _⟩ := hxC; obtain ⟨⟨iA0, iA1, iA2⟩, _, _⟩ := hxA; obtain ⟨⟨iR0, iR1, iR2⟩, _, _⟩ := hxR; go_simp; try (with_reducible rfl))); (try simp only [Act.put, List.getElem_toArray, List.getElem_cons_succ, List.getElem_cons_zero, List.setIfInBounds_toArray, List.set_cons_zero, List.set_cons_succ])
        (refine wpAnyH_take (i := 1) (v := ?_) rfl (by kernel_rfl) (by kernel_rfl) (by kernel_rfl) (fun _ _ _ h => h) (Or.inl ⟨rfl, ?_⟩) (by assumption) ?_; rotate_left; focus (intro W hSw; (try dsimp only at hSw); obtain ⟨hSb, hxC, hxA, hxR⟩ := hSw; obtain ⟨⟨iC0, iC1, iC2, iC3, iC4, iC5, iC6, iC7, iC8⟩, _, _⟩ := hxC; obtain ⟨⟨iA0, iA1, iA2⟩, _, _⟩ := hxA; obtain ⟨⟨iR0, iR1, iR2⟩, _, _⟩ := hxR; go_simp; try (with_reducible rfl))); (try simp only [Act.put, List.getElem_toArray, List.getElem_cons_succ, List.getElem_cons_zero, List.setIfInBounds_toArray, List.set_cons_zero, List.set_cons_succ])
        (refine wpAnyH_take (i := 2) (v := ?_) rfl (by kernel_rfl) (by kernel_rfl) (by kernel_rfl) (fun _ _ _ h => h) (Or.inl ⟨rfl, ?_⟩) (by assumption) ?_; rotate_left; focus (intro W hSw; (try dsimp only at hSw); obtain ⟨hSb, hxC, hxA, hxR⟩ := hSw; obtain ⟨⟨iC0, iC1, iC2, iC3, iC4, iC5, iC6, iC7, iC8⟩, _, _⟩ := hxC; obtain ⟨⟨iA0, iA1, iA2⟩, _, _⟩ := hxA; obtain ⟨⟨iR0, iR1, iR2⟩, _, _⟩ := hxR; go_simp; try (with_reducible rfl))); (try simp only [Act.put, List.getElem_toArray, List.getElem_cons_succ, List.getElem_cons_zero, List.setIfInBounds_toArray, List.set_cons_zero, List.set_cons_succ])
        (refine wpAnyH_take (i := 3) (v := ?_) rfl (by kernel_rfl) (by kernel_rfl) (by kernel_rfl) (fun _ _ _ h => h) (Or.inl ⟨rfl, ?_⟩) (by assumption) ?_; rotate_left; focus (intro W hSw; (try dsimp only at hSw); obtain ⟨hSb, hxC, hxA, hxR⟩ := hSw; obtain ⟨⟨iC0, iC1, iC2, iC3, iC4, iC5, iC6, iC7, iC8⟩, _, _⟩ := hxC; obtain ⟨⟨iA0, iA1, iA2⟩, _, _⟩ := hxA; obtain ⟨⟨iR0, iR1, iR2⟩, _, _⟩ := hxR; go_simp; try (with_reducible rfl))); (try simp only [Act.put, List.getElem_toArray, List.getElem_cons_succ, List.getElem_cons_zero, List.setIfInBounds_toArray, List.set_cons_zero, List.set_cons_succ])
        (refine wpAnyH_take (i := 4) (v := ?_) rfl (by kernel_rfl) (by kernel_rfl) (by kernel_rfl) (fun _ _ _ h => h) (Or.inl ⟨rfl, ?_⟩) (by assumption) ?_; rotate_left; focus (intro W hSw; (try dsimp only at hSw); obtain ⟨hSb, hxC, hxA, hxR⟩ := hSw; obtain ⟨⟨iC0, iC1, iC2, iC3, iC4, iC5, iC6, iC7, iC8⟩, _, _⟩ := hxC; obtain ⟨⟨iA0, iA1, iA2⟩, _, _⟩ := hxA; obtain ⟨⟨iR0, iR1, iR2⟩, _, _⟩ := hxR; go_simp; try (with_reducible rfl))); (try simp only [Act.put, List.getElem_toArray, List.getElem_cons_succ, List.getElem_cons_zero, List.setIfInBounds_toArray, List.set_cons_zero, List.set_cons_succ])
        (refine wpAnyH_take (i := 5) (v := ?_) rfl (by kernel_rfl) (by kernel_rfl) (by kernel_rfl) (fun _ _ _ h => h) (Or.inl ⟨rfl, ?_⟩) (by assumption) ?_; rotate_left; focus (intro W hSw; (try dsimp only at hSw); obtain ⟨hSb, hxC, hxA, hxR⟩ := hSw; obtain ⟨⟨iC0, iC1, iC2, iC3, iC4, iC5, iC6, iC7, iC8⟩, _, _⟩ := hxC; obtain ⟨⟨iA0, iA1, iA2⟩, _, _⟩ := hxA; obtain ⟨⟨iR0, iR1, iR2⟩, _, _⟩ := hxR; go_simp; try (with_reducible rfl))); (try simp only [Act.put, List.getElem_toArray, List.getElem_cons_succ, List.getElem_cons_zero, List.setIfInBounds_toArray, List.set_cons_zero, List.set_cons_succ])
        (refine wpAnyH_take (i := 6) (v := ?_) rfl (by kernel_rfl) (by kernel_rfl) (by kernel_rfl) (fun _ _ _ h => h) (Or.inl ⟨rfl, ?_⟩) (by assumption) ?_; rotate_left; focus (intro W hSw; (try dsimp only at hSw); obtain ⟨hSb, hxC, hxA, hxR⟩ := hSw; obtain ⟨⟨iC0, iC1, iC2, iC3, iC4, iC5, iC6, iC7, iC8⟩, _, _⟩ := hxC; obtain ⟨⟨iA0, iA1, iA2⟩, _, _⟩ := hxA; obtain ⟨⟨iR0, iR1, iR2⟩, _, _⟩ := hxR; go_simp; try (with_reducible rfl))); (try simp only [Act.put, List.getElem_toArray, List.getElem_cons_succ, List.getElem_cons_zero, List.setIfInBounds_toArray, List.set_cons_zero, List.set_cons_succ])
        (refine wpAnyH_take (i := 7) (v := ?_) rfl (by kernel_rfl) (by kernel_rfl) (by kernel_rfl) (fun _ _ _ h => h) (Or.inl ⟨rfl, ?_⟩) (by assumption) ?_; rotate_left; focus (intro W hSw; (try dsimp only at hSw); obtain ⟨hSb, hxC, hxA, hxR⟩ := hSw; obtain ⟨⟨iC0, iC1, iC2, iC3, iC4, iC5, iC6, iC7, iC8⟩, _, _⟩ := hxC; obtain ⟨⟨iA0, iA1, iA2⟩, _, _⟩ := hxA; obtain ⟨⟨iR0, iR1, iR2⟩, _, _⟩ := hxR; go_simp; try (with_reducible rfl))); (try simp only [Act.put, List.getElem_toArray, List.getElem_cons_succ, List.getElem_cons_zero, List.setIfInBounds_toArray, List.set_cons_zero, List.set_cons_succ])
        (refine wpAnyH_take (i := 8) (v := ?_) rfl (by kernel_rfl) (by kernel_rfl) (by kernel_rfl) (fun _ _ _ h => h) (Or.inl ⟨rfl, ?_⟩) (by assumption) ?_; rotate_left; focus (intro W hSw; (try dsimp only at hSw); obtain ⟨hSb, hxC, hxA, hxR⟩ := hSw; obtain ⟨⟨iC0, iC1, iC2, iC3, iC4, iC5, iC6, iC7, iC8⟩, _, _⟩ := hxC; obtain ⟨⟨iA0, iA1, iA2⟩, _, _⟩ := hxA; obtain ⟨⟨iR0, iR1, iR2⟩, _, _⟩ := hxR; go_simp; try (with_reducible rfl))); (try simp only [Act.put, List.getElem_toArray, List.getElem_cons_succ, List.getElem_cons_zero, List.setIfInBounds_toArray, List.set_cons_zero, List.set_cons_succ])
        (refine wpAnyH_take (i := 9) (v := ?_) rfl (by kernel_rfl) (by kernel_rfl) (by kernel_rfl) (fun _ _ _ h => h) (Or.inl ⟨rfl, ?_⟩) (by assumption) ?_; rotate_left; focus (intro W hSw; (try dsimp only at hSw); obtain ⟨hSb, hxC, hxA, hxR⟩ := hSw; obtain ⟨⟨iC0, iC1, iC2, iC3, iC4, iC5, iC6, iC7, iC8⟩, _, _⟩ := hxC; obtain ⟨⟨iA0, iA1, iA2⟩, _, _⟩ := hxA; obtain ⟨⟨iR0, iR1, iR2⟩, _, _⟩ := hxR; go_simp; try (with_reducible rfl))); (try simp only [Act.put, List.getElem_toArray, List.getElem_cons_succ, List.getElem_cons_zero, List.setIfInBounds_toArray, List.set_cons_zero, List.set_cons_succ])
        (refine wpAnyH_take (i := 10) (v := ?_) rfl (by kernel_rfl) (by kernel_rfl) (by kernel_rfl) (fun _ _ _ h => h) (Or.inl ⟨rfl, ?_⟩) (by assumption) ?_; rotate_left; focus (intro W hSw; (try dsimp only at hSw); obtain ⟨hSb, hxC, hxA, hxR⟩ := hSw; obtain ⟨⟨iC0, iC1, iC2, iC3, iC4, iC5, iC6, iC7, iC8⟩, _, _⟩ := hxC; obtain ⟨⟨iA0, iA1, iA2⟩, _, _⟩ := hxA; obtain ⟨⟨iR0, iR1, iR2⟩, _, _⟩ := hxR; go_simp; try (with_reducible rfl))); (try simp only [Act.put, List.getElem_toArray, List.getElem_cons_succ, List.getElem_cons_zero, List.setIfInBounds_toArray, List.set_cons_zero, List.set_cons_succ])
        (refine wpAnyH_take (i := 11) (v := ?_) rfl (by kernel_rfl) (by kernel_rfl) (by kernel_rfl) (fun _ _ _ h => h) (Or.inl ⟨rfl, ?_⟩) (by assumption) ?_; rotate_left; focus (intro W hSw; (try dsimp only at hSw); obtain ⟨hSb, hxC, hxA, hxR⟩ := hSw; obtain ⟨⟨iC0, iC1, iC2, iC3, iC4, iC5, iC6, iC7, iC8⟩, _, _⟩ := hxC; obtain ⟨⟨iA0, iA1, iA2⟩, _, _⟩ := hxA; obtain ⟨⟨iR0, iR1, iR2⟩, _, _⟩ := hxR; go_simp; try (with_reducible rfl))); (try simp only [Act.put, List.getElem_toArray, List.getElem_cons_succ, List.getElem_cons_zero, List.setIfInBounds_toArray, List.set_cons_zero, List.set_cons_succ])
        (refine wpAnyH_take (i := 12) (v := ?_) rfl (by kernel_rfl) (by kernel_rfl) (by kernel_rfl) (fun _ _ _ h => h) (Or.inl ⟨rfl, ?_⟩) (by assumption) ?_; rotate_left; focus (intro W hSw; (try dsimp only at hSw); obtain ⟨hSb, hxC, hxA, hxR⟩ := hSw; obtain ⟨⟨iC0, iC1, iC2, iC3, iC4, iC5, iC6, iC7, iC8⟩, _, _⟩ := hxC; obtain ⟨⟨iA0, iA1, iA2⟩, _, _⟩ := hxA; obtain ⟨⟨iR0, iR1, iR2⟩, _, _⟩ := hxR; go_simp; try (with_reducible rfl))); (try simp only [Act.put, List.getElem_toArray, List.getElem_cons_succ, List.getElem_cons_zero, List.setIfInBounds_toArray, List.set_cons_zero, List.set_cons_succ])
        refine wpAnyH_ready (rs := [13]) (by kernel_rfl) (by simp) ?_; refine AllReadyH.cons rfl (fun K hK => ?_) AllReadyH.nil
        go_simp; (go_at_call 51; refine (HE2.out _).mono ?_; rintro en ywr80x0 ⟨rfl, hb2⟩); have HO := Lib.hid (HO.out.below hb2); have HC := Lib.hid (HC.out.below hb2); have HA := Lib.hid (HA.out.below hb2); have HR := Lib.hid (HR.out.below hb2); refine hK.out _ _ ⟨below_after hb2 hHeld.1, HC.out, HA.out, HR.out⟩ (fun hHeld2 => ?_); clear hb2; (clear hHeld; rename _ => hHeld; clear hK K; have hHeld : (fun W => Below w.heap.size w W ∧ Bk9 W GC c0 c1 c2 c3 c4 c5 c6 c7 c8 ∧ Bk3 W GA a0 a1 a2 ∧ Bk3 W GR 0 0 0) _ := hHeld); (try simp only [Act.put, List.getElem_toArray, List.getElem_cons_succ, List.getElem_cons_zero, List.setIfInBounds_toArray, List.set_cons_zero, List.set_cons_succ])
        (refine wpAnyH_take (i := 14) (v := ?_) rfl (by kernel_rfl) (by kernel_rfl) (by kernel_rfl) (fun _ _ _ h => h) (Or.inl ⟨rfl, ?_⟩) (by assumption) ?_; rotate_left; focus (intro W hSw; (try dsimp only at hSw); obtain ⟨hSb, hxC, hxA, hxR⟩ := hSw; obtain ⟨⟨iC0, iC1, iC2, iC3, iC4, iC5, iC6, iC7, iC8⟩, _, _⟩ := hxC; obtain ⟨⟨iA0, iA1, iA2⟩, _, _⟩ := hxA; obtain ⟨⟨iR0, iR1, iR2⟩, _, _⟩ := hxR; go_simp; try (with_reducible rfl))); (try simp only [Act.put, List.getElem_toArray, List.getElem_cons_succ, List.getElem_cons_zero, List.setIfInBounds_toArray, List.set_cons_zero, List.set_cons_succ])
        (refine wpAnyH_take (i := 15) (v := ?_) rfl (by kernel_rfl) (by kernel_rfl) (by kernel_rfl) (fun _ _ _ h => h) (Or.inl ⟨rfl, ?_⟩) (by assumption) ?_; rotate_left; focus (intro W hSw; (try dsimp only at hSw); obtain ⟨hSb, hxC, hxA, hxR⟩ := hSw; obtain ⟨⟨iC0, iC1, iC2, iC3, iC4, iC5, iC6, iC7, iC8⟩, _, _⟩ := hxC; obtain ⟨⟨iA0, iA1, iA2⟩, _, _⟩ := hxA; obtain ⟨⟨iR0, iR1, iR2⟩, _, _⟩ := hxR; go_simp; try (with_reducible rfl))); (try simp only [Act.put, List.getElem_toArray, List.getElem_cons_succ, List.getElem_cons_zero, List.setIfInBounds_toArray, List.set_cons_zero, List.set_cons_succ])
        refine wpAnyH_ready (rs := [16]) (by kernel_rfl) (by simp) ?_; refine AllReadyH.cons rfl (fun K hK => ?_) AllReadyH.nil
        obtain ⟨⟨a0, a1, a2⟩, ⟨f0, f1, f2⟩, az⟩ := HO.out; go_simp; clear a0 f0 a1 f1 a2 f2 az
        have HC := Lib.hid (HC.out.far ⟨GO, 2, none⟩ (.int .i64 E2) (by show GC ≠ GO; exact ne_C_O))
        have HA := Lib.hid (HA.out.far ⟨GO, 2, none⟩ (.int .i64 E2) (by show GA ≠ GO; exact ne_A_O))
        have HR := Lib.hid (HR.out.far ⟨GO, 2, none⟩ (.int .i64 E2) (by show GR ≠ GO; exact ne_R_O))
        have HO := Lib.hid (HO.out.set2 E2)
        refine hK.out _ _ ⟨(Below.setCell hHeld.1 (p := ⟨GO, 2, none⟩) le_O _), HC.out, HA.out, HR.out⟩ (fun hHeld2 => ?_); (clear hHeld; rename _ => hHeld; clear hK K; have hHeld : (fun W => Below w.heap.size w W ∧ Bk9 W GC c0 c1 c2 c3 c4 c5 c6 c7 c8 ∧ Bk3 W GA a0 a1 a2 ∧ Bk3 W GR 0 0 0) _ := hHeld); (try simp only [Act.put, List.getElem_toArray, List.getElem_cons_succ, List.getElem_cons_zero, List.setIfInBounds_toArray, List.set_cons_zero, List.set_cons_succ])
        obtain ⟨ywr80x1, hwx⟩ : ∃ wx, ywr80x0.setCell ⟨GO, 2, none⟩ (.int .i64 E2) = wx := ⟨_, rfl⟩; rw [hwx] at HO HC HA HR hHeld ⊢; clear hwx
        refine wpAnyH_done (by kernel_rfl) ?_ _
        have HB := Lib.hid (hHeld.1)
        clear hHeld
        obtain ⟨⟨qO0, qO1, qO2⟩, ⟨fO0, fO1, fO2⟩, zO⟩ := HO.out
        obtain ⟨⟨qC0, qC1, qC2, qC3, qC4, qC5, qC6, qC7, qC8⟩, ⟨fC0, fC1, fC2, fC3, fC4, fC5, fC6, fC7, fC8⟩, zC⟩ := HC.out
        obtain ⟨⟨qA0, qA1, qA2⟩, ⟨fA0, fA1, fA2⟩, zA⟩ := HA.out
        obtain ⟨⟨qR0, qR1, qR2⟩, ⟨fR0, fR1, fR2⟩, zR⟩ := HR.out
        go_wp2_with fail
        clear qO0 fO0 qO1 fO1 qO2 fO2 zO qC0 fC0 qC1 fC1 qC2 fC2 qC3 fC3 qC4 fC4 qC5 fC5 qC6 fC6 qC7 fC7 qC8 fC8 zC qA0 fA0 qA1 fA1 qA2 fA2 zA qR0 fR0 qR1 fR1 qR2 fR2 zR
        go_roundw
        case rel => exact ⟨2 + 1, by first | rfl | go_num, by omega, HO.out, HC.out, HA.out, HR.out, HB.out⟩
        case measure => simp only [intOf]; omega
      · rw [show ((3 : Nat) : Int) = 3 from rfl]
        have HO : Hid (Bk3 wr GO E0 E1 E2) := HO0.out
        clear HO0
        obtain ⟨ne_O_C, ne_O_A, ne_O_R, ne_C_O, ne_A_O, ne_R_O, le_O⟩ := HNE.out
        obtain ⟨⟨qO0, qO1, qO2⟩, ⟨fO0, fO1, fO2⟩, zO⟩ := HO.out
        obtain ⟨⟨qC0, qC1, qC2, qC3, qC4, qC5, qC6, qC7, qC8⟩, ⟨fC0, fC1, fC2, fC3, fC4, fC5, fC6, fC7, fC8⟩, zC⟩ := HC.out
        obtain ⟨⟨qA0, qA1, qA2⟩, ⟨fA0, fA1, fA2⟩, zA⟩ := HA.out
        obtain ⟨⟨qR0, qR1, qR2⟩, ⟨fR0, fR1, fR2⟩, zR⟩ := HR.out
        go_wp2_with fail
        refine bodyPost_ret (v := .agg #[.int .i64 E0, .int .i64 E1, .int .i64 E2]) (by simp (maxDischargeDepth := 8) [results, Tryd.results59, go_sem, *]) rfl ?_
        have hb := HB.out
        exact ⟨by rw [HR0.out, HR1.out, HR2.out], by (repeat' (first | (with_reducible exact Below.refl _ _) | (with_reducible refine Below.alloc ?_ ?_ _) | (with_reducible refine Below.setCell ?_ ?_ _) | (with_reducible refine Below.drew ?_) | (with_reducible refine below_drewN ?_ _) | (with_reducible assumption) | (with_reducible refine below_after (by with_reducible assumption) ?_) | go_size))⟩
end Go.Proofs.YtjjblgmokmalaaaDoor
