/-
  Cones and tetrahedra in the model (own work).
-/
import Derived.Test.YtjjblgmokmalaaaSpS
namespace Go.Proofs.Ytjjblgmokmalaaa
open Go.ChangeShapes Go.WideShapes Go.ChangeAt Go.RowKit
set_option linter.unusedVariables false
set_option linter.unusedSimpArgs false
set_option maxRecDepth 100000

/-- A cone. -/
def isCo (c0 c1 c2 c3 c4 c5 c6 c7 c8 : Int) : Bool := isSp c0 c1 c2 && isSp c3 c4 c5 && isSp c6 c7 c8 && !((detV c0 c1 c2 c3 c4 c5 c6 c7 c8) == 0)
theorem abs0 {d : Int} : absI d = 0 ↔ d = 0 := by unfold absI; omega
def bok (b : Bool) : Int := bif b then 0 else 1
def bvl (b : Bool) (x : Int) : Int := bif b then x else 0
def bls (b : Bool) (xs : List Int) : List Int := bif b then xs else []
theorem isCo_parts {c0 c1 c2 c3 c4 c5 c6 c7 c8 : Int} (h : isCo c0 c1 c2 c3 c4 c5 c6 c7 c8 = true) : W3 20 c0 c1 c2 ∧ W3 20 c3 c4 c5 ∧ W3 20 c6 c7 c8 ∧ (detV c0 c1 c2 c3 c4 c5 c6 c7 c8) ≠ 0 := by
  simp only [isCo, Bool.and_eq_true, Bool.not_eq_true', beq_eq_false_iff_ne] at h
  exact ⟨isSp_W3 h.1.1.1, isSp_W3 h.1.1.2, isSp_W3 h.1.2, h.2⟩
/-- The coordinates of a spot. -/
def co0 (c0 c1 c2 c3 c4 c5 c6 c7 c8 a0 a1 a2 : Int) : Int := sgV (detV c0 c1 c2 c3 c4 c5 c6 c7 c8) * detV a0 a1 a2 c3 c4 c5 c6 c7 c8
def co1 (c0 c1 c2 c3 c4 c5 c6 c7 c8 a0 a1 a2 : Int) : Int := sgV (detV c0 c1 c2 c3 c4 c5 c6 c7 c8) * detV a0 a1 a2 c6 c7 c8 c0 c1 c2
def co2 (c0 c1 c2 c3 c4 c5 c6 c7 c8 a0 a1 a2 : Int) : Int := sgV (detV c0 c1 c2 c3 c4 c5 c6 c7 c8) * detV a0 a1 a2 c0 c1 c2 c3 c4 c5
/-- The volume of a tetrahedron. -/
def voV (t0 t1 t2 t3 t4 t5 t6 t7 t8 t9 t10 t11 : Int) : Int := absI (detV (t3 - t0) (t4 - t1) (t5 - t2) (t6 - t0) (t7 - t1) (t8 - t2) (t9 - t0) (t10 - t1) (t11 - t2))
def isTe (t0 t1 t2 t3 t4 t5 t6 t7 t8 t9 t10 t11 : Int) : Bool := isSp t0 t1 t2 && isSp t3 t4 t5 && isSp t6 t7 t8 && isSp t9 t10 t11 && !(voV t0 t1 t2 t3 t4 t5 t6 t7 t8 t9 t10 t11 == 0)
set_option maxHeartbeats 800000 in
theorem l08Is_any (c0 c1 c2 c3 c4 c5 c6 c7 c8 : Int) (w : World) :
    Calls Try.prog 16 #[.agg #[.int .i64 c0, .int .i64 c1, .int .i64 c2, .int .i64 c3, .int .i64 c4, .int .i64 c5, .int .i64 c6, .int .i64 c7, .int .i64 c8]] w fun e w' => e = .returned (.bool (isCo c0 c1 c2 c3 c4 c5 c6 c7 c8)) ∧ Below w.heap.size w w' := by
  cases k0 : isSp c0 c1 c2
  · skip
    have HK0 := Lib.hid k0
    have HS0 : Hid (∀ w, Calls Try.prog 15 #[.agg #[.int .i64 c0, .int .i64 c1, .int .i64 c2]] w fun e w' => e = .returned (.bool false) ∧ Below w.heap.size w w') := fun w => by have := l08Spot_any c0 c1 c2 w; rwa [k0] at this
    clear k0
    obtain ⟨GC, hG⟩ : ∃ G, w.heap.size = G := ⟨_, rfl⟩
    have HG := Lib.hid hG
    go_enter Try.func16, Try.ntmps16
    go_upto_region 1 with fail
    obtain ⟨w0, hw0⟩ : ∃ w0, w0 = (w.alloc (.cells #[.int .i64 c0, .int .i64 c1, .int .i64 c2, .int .i64 c3, .int .i64 c4, .int .i64 c5, .int .i64 c6, .int .i64 c7, .int .i64 c8] 30)) := ⟨_, rfl⟩
    rw [← hw0]
    have HC : Hid (Bk9 w0 GC c0 c1 c2 c3 c4 c5 c6 c7 c8) := by
      have h := (bk9_new w c0 c1 c2 c3 c4 c5 c6 c7 c8 30).below (W' := (w.alloc (.cells #[.int .i64 c0, .int .i64 c1, .int .i64 c2, .int .i64 c3, .int .i64 c4, .int .i64 c5, .int .i64 c6, .int .i64 c7, .int .i64 c8] 30))) (by (repeat' (first | (with_reducible exact Below.refl _ _) | (with_reducible refine Below.alloc ?_ ?_ _) | (with_reducible refine Below.setCell ?_ ?_ _) | (with_reducible refine Below.drew ?_) | (with_reducible refine below_drewN ?_ _) | (with_reducible assumption) | (with_reducible refine below_after (by with_reducible assumption) ?_) | go_size)))
      (try simp only [World.size_alloc] at h)
      rw [hG] at h
      rw [hw0]; exact h
    have HB : Hid (Below w.heap.size w w0) := by show Below w.heap.size w w0; rw [hw0]; (repeat' (first | (with_reducible exact Below.refl _ _) | (with_reducible refine Below.alloc ?_ ?_ _) | (with_reducible refine Below.setCell ?_ ?_ _) | (with_reducible refine Below.drew ?_) | (with_reducible refine below_drewN ?_ _) | (with_reducible assumption) | (with_reducible refine below_after (by with_reducible assumption) ?_) | go_size))
    clear hw0
    have le_C : w.heap.size ≤ GC := by omega
    obtain ⟨⟨qC0, qC1, qC2, qC3, qC4, qC5, qC6, qC7, qC8⟩, ⟨fC0, fC1, fC2, fC3, fC4, fC5, fC6, fC7, fC8⟩, zC⟩ := HC.out
    go_wp2_with fail
    go_at_call 15
    refine (HS0.out _).mono ?_
    rintro e w1 ⟨rfl, hb⟩
    clear qC0 fC0 qC1 fC1 qC2 fC2 qC3 fC3 qC4 fC4 qC5 fC5 qC6 fC6 qC7 fC7 qC8 fC8 zC
    have HC := Lib.hid (HC.out.below hb)
    have HB := Lib.hid (below_after hb HB.out)
    clear hb
    obtain ⟨⟨qC0, qC1, qC2, qC3, qC4, qC5, qC6, qC7, qC8⟩, ⟨fC0, fC1, fC2, fC3, fC4, fC5, fC6, fC7, fC8⟩, zC⟩ := HC.out
    go_wp2_with fail
    refine bodyPost_ret (v := .bool false) (by simp (maxDischargeDepth := 8) [results, Try.results16, go_sem, *]) rfl ?_
    have hb := HB.out
    exact ⟨by simp [isCo, HK0.out], by (repeat' (first | (with_reducible exact Below.refl _ _) | (with_reducible refine Below.alloc ?_ ?_ _) | (with_reducible refine Below.setCell ?_ ?_ _) | (with_reducible refine Below.drew ?_) | (with_reducible refine below_drewN ?_ _) | (with_reducible assumption) | (with_reducible refine below_after (by with_reducible assumption) ?_) | go_size))⟩
  · skip
    have HK0 := Lib.hid k0
    have HS0 : Hid (∀ w, Calls Try.prog 15 #[.agg #[.int .i64 c0, .int .i64 c1, .int .i64 c2]] w fun e w' => e = .returned (.bool true) ∧ Below w.heap.size w w') := fun w => by have := l08Spot_any c0 c1 c2 w; rwa [k0] at this
    clear k0
    cases k1 : isSp c3 c4 c5
    · skip
      have HK1 := Lib.hid k1
      have HS1 : Hid (∀ w, Calls Try.prog 15 #[.agg #[.int .i64 c3, .int .i64 c4, .int .i64 c5]] w fun e w' => e = .returned (.bool false) ∧ Below w.heap.size w w') := fun w => by have := l08Spot_any c3 c4 c5 w; rwa [k1] at this
      clear k1
      obtain ⟨GC, hG⟩ : ∃ G, w.heap.size = G := ⟨_, rfl⟩
      have HG := Lib.hid hG
      go_enter Try.func16, Try.ntmps16
      go_upto_region 1 with fail
      obtain ⟨w0, hw0⟩ : ∃ w0, w0 = (w.alloc (.cells #[.int .i64 c0, .int .i64 c1, .int .i64 c2, .int .i64 c3, .int .i64 c4, .int .i64 c5, .int .i64 c6, .int .i64 c7, .int .i64 c8] 30)) := ⟨_, rfl⟩
      rw [← hw0]
      have HC : Hid (Bk9 w0 GC c0 c1 c2 c3 c4 c5 c6 c7 c8) := by
        have h := (bk9_new w c0 c1 c2 c3 c4 c5 c6 c7 c8 30).below (W' := (w.alloc (.cells #[.int .i64 c0, .int .i64 c1, .int .i64 c2, .int .i64 c3, .int .i64 c4, .int .i64 c5, .int .i64 c6, .int .i64 c7, .int .i64 c8] 30))) (by (repeat' (first | (with_reducible exact Below.refl _ _) | (with_reducible refine Below.alloc ?_ ?_ _) | (with_reducible refine Below.setCell ?_ ?_ _) | (with_reducible refine Below.drew ?_) | (with_reducible refine below_drewN ?_ _) | (with_reducible assumption) | (with_reducible refine below_after (by with_reducible assumption) ?_) | go_size)))
        (try simp only [World.size_alloc] at h)
        rw [hG] at h
        rw [hw0]; exact h
      have HB : Hid (Below w.heap.size w w0) := by show Below w.heap.size w w0; rw [hw0]; (repeat' (first | (with_reducible exact Below.refl _ _) | (with_reducible refine Below.alloc ?_ ?_ _) | (with_reducible refine Below.setCell ?_ ?_ _) | (with_reducible refine Below.drew ?_) | (with_reducible refine below_drewN ?_ _) | (with_reducible assumption) | (with_reducible refine below_after (by with_reducible assumption) ?_) | go_size))
      clear hw0
      have le_C : w.heap.size ≤ GC := by omega
      obtain ⟨⟨qC0, qC1, qC2, qC3, qC4, qC5, qC6, qC7, qC8⟩, ⟨fC0, fC1, fC2, fC3, fC4, fC5, fC6, fC7, fC8⟩, zC⟩ := HC.out
      go_wp2_with fail
      go_at_call 15
      refine (HS0.out _).mono ?_
      rintro e w1 ⟨rfl, hb⟩
      clear qC0 fC0 qC1 fC1 qC2 fC2 qC3 fC3 qC4 fC4 qC5 fC5 qC6 fC6 qC7 fC7 qC8 fC8 zC
      have HC := Lib.hid (HC.out.below hb)
      have HB := Lib.hid (below_after hb HB.out)
      clear hb
      obtain ⟨⟨qC0, qC1, qC2, qC3, qC4, qC5, qC6, qC7, qC8⟩, ⟨fC0, fC1, fC2, fC3, fC4, fC5, fC6, fC7, fC8⟩, zC⟩ := HC.out
      go_wp2_with fail
      go_at_call 15
      refine (HS1.out _).mono ?_
      rintro e w2 ⟨rfl, hb⟩
      clear qC0 fC0 qC1 fC1 qC2 fC2 qC3 fC3 qC4 fC4 qC5 fC5 qC6 fC6 qC7 fC7 qC8 fC8 zC
      have HC := Lib.hid (HC.out.below hb)
      have HB := Lib.hid (below_after hb HB.out)
      clear hb
      obtain ⟨⟨qC0, qC1, qC2, qC3, qC4, qC5, qC6, qC7, qC8⟩, ⟨fC0, fC1, fC2, fC3, fC4, fC5, fC6, fC7, fC8⟩, zC⟩ := HC.out
      go_wp2_with fail
      refine bodyPost_ret (v := .bool false) (by simp (maxDischargeDepth := 8) [results, Try.results16, go_sem, *]) rfl ?_
      have hb := HB.out
      exact ⟨by simp [isCo, HK0.out, HK1.out], by (repeat' (first | (with_reducible exact Below.refl _ _) | (with_reducible refine Below.alloc ?_ ?_ _) | (with_reducible refine Below.setCell ?_ ?_ _) | (with_reducible refine Below.drew ?_) | (with_reducible refine below_drewN ?_ _) | (with_reducible assumption) | (with_reducible refine below_after (by with_reducible assumption) ?_) | go_size))⟩
    · skip
      have HK1 := Lib.hid k1
      have HS1 : Hid (∀ w, Calls Try.prog 15 #[.agg #[.int .i64 c3, .int .i64 c4, .int .i64 c5]] w fun e w' => e = .returned (.bool true) ∧ Below w.heap.size w w') := fun w => by have := l08Spot_any c3 c4 c5 w; rwa [k1] at this
      clear k1
      cases k2 : isSp c6 c7 c8
      · skip
        have HK2 := Lib.hid k2
        have HS2 : Hid (∀ w, Calls Try.prog 15 #[.agg #[.int .i64 c6, .int .i64 c7, .int .i64 c8]] w fun e w' => e = .returned (.bool false) ∧ Below w.heap.size w w') := fun w => by have := l08Spot_any c6 c7 c8 w; rwa [k2] at this
        clear k2
        obtain ⟨GC, hG⟩ : ∃ G, w.heap.size = G := ⟨_, rfl⟩
        have HG := Lib.hid hG
        go_enter Try.func16, Try.ntmps16
        go_upto_region 1 with fail
        obtain ⟨w0, hw0⟩ : ∃ w0, w0 = (w.alloc (.cells #[.int .i64 c0, .int .i64 c1, .int .i64 c2, .int .i64 c3, .int .i64 c4, .int .i64 c5, .int .i64 c6, .int .i64 c7, .int .i64 c8] 30)) := ⟨_, rfl⟩
        rw [← hw0]
        have HC : Hid (Bk9 w0 GC c0 c1 c2 c3 c4 c5 c6 c7 c8) := by
          have h := (bk9_new w c0 c1 c2 c3 c4 c5 c6 c7 c8 30).below (W' := (w.alloc (.cells #[.int .i64 c0, .int .i64 c1, .int .i64 c2, .int .i64 c3, .int .i64 c4, .int .i64 c5, .int .i64 c6, .int .i64 c7, .int .i64 c8] 30))) (by (repeat' (first | (with_reducible exact Below.refl _ _) | (with_reducible refine Below.alloc ?_ ?_ _) | (with_reducible refine Below.setCell ?_ ?_ _) | (with_reducible refine Below.drew ?_) | (with_reducible refine below_drewN ?_ _) | (with_reducible assumption) | (with_reducible refine below_after (by with_reducible assumption) ?_) | go_size)))
          (try simp only [World.size_alloc] at h)
          rw [hG] at h
          rw [hw0]; exact h
        have HB : Hid (Below w.heap.size w w0) := by show Below w.heap.size w w0; rw [hw0]; (repeat' (first | (with_reducible exact Below.refl _ _) | (with_reducible refine Below.alloc ?_ ?_ _) | (with_reducible refine Below.setCell ?_ ?_ _) | (with_reducible refine Below.drew ?_) | (with_reducible refine below_drewN ?_ _) | (with_reducible assumption) | (with_reducible refine below_after (by with_reducible assumption) ?_) | go_size))
        clear hw0
        have le_C : w.heap.size ≤ GC := by omega
        obtain ⟨⟨qC0, qC1, qC2, qC3, qC4, qC5, qC6, qC7, qC8⟩, ⟨fC0, fC1, fC2, fC3, fC4, fC5, fC6, fC7, fC8⟩, zC⟩ := HC.out
        go_wp2_with fail
        go_at_call 15
        refine (HS0.out _).mono ?_
        rintro e w1 ⟨rfl, hb⟩
        clear qC0 fC0 qC1 fC1 qC2 fC2 qC3 fC3 qC4 fC4 qC5 fC5 qC6 fC6 qC7 fC7 qC8 fC8 zC
        have HC := Lib.hid (HC.out.below hb)
        have HB := Lib.hid (below_after hb HB.out)
        clear hb
        obtain ⟨⟨qC0, qC1, qC2, qC3, qC4, qC5, qC6, qC7, qC8⟩, ⟨fC0, fC1, fC2, fC3, fC4, fC5, fC6, fC7, fC8⟩, zC⟩ := HC.out
        go_wp2_with fail
        go_at_call 15
        refine (HS1.out _).mono ?_
        rintro e w2 ⟨rfl, hb⟩
        clear qC0 fC0 qC1 fC1 qC2 fC2 qC3 fC3 qC4 fC4 qC5 fC5 qC6 fC6 qC7 fC7 qC8 fC8 zC
        have HC := Lib.hid (HC.out.below hb)
        have HB := Lib.hid (below_after hb HB.out)
        clear hb
        obtain ⟨⟨qC0, qC1, qC2, qC3, qC4, qC5, qC6, qC7, qC8⟩, ⟨fC0, fC1, fC2, fC3, fC4, fC5, fC6, fC7, fC8⟩, zC⟩ := HC.out
        go_wp2_with fail
        go_at_call 15
        refine (HS2.out _).mono ?_
        rintro e w3 ⟨rfl, hb⟩
        clear qC0 fC0 qC1 fC1 qC2 fC2 qC3 fC3 qC4 fC4 qC5 fC5 qC6 fC6 qC7 fC7 qC8 fC8 zC
        have HC := Lib.hid (HC.out.below hb)
        have HB := Lib.hid (below_after hb HB.out)
        clear hb
        obtain ⟨⟨qC0, qC1, qC2, qC3, qC4, qC5, qC6, qC7, qC8⟩, ⟨fC0, fC1, fC2, fC3, fC4, fC5, fC6, fC7, fC8⟩, zC⟩ := HC.out
        go_wp2_with fail
        refine bodyPost_ret (v := .bool false) (by simp (maxDischargeDepth := 8) [results, Try.results16, go_sem, *]) rfl ?_
        have hb := HB.out
        exact ⟨by simp [isCo, HK0.out, HK1.out, HK2.out], by (repeat' (first | (with_reducible exact Below.refl _ _) | (with_reducible refine Below.alloc ?_ ?_ _) | (with_reducible refine Below.setCell ?_ ?_ _) | (with_reducible refine Below.drew ?_) | (with_reducible refine below_drewN ?_ _) | (with_reducible assumption) | (with_reducible refine below_after (by with_reducible assumption) ?_) | go_size))⟩
      · skip
        have HK2 := Lib.hid k2
        have HS2 : Hid (∀ w, Calls Try.prog 15 #[.agg #[.int .i64 c6, .int .i64 c7, .int .i64 c8]] w fun e w' => e = .returned (.bool true) ∧ Below w.heap.size w w') := fun w => by have := l08Spot_any c6 c7 c8 w; rwa [k2] at this
        clear k2
        obtain ⟨S, hS⟩ : ∃ S, absI (detV c0 c1 c2 c3 c4 c5 c6 c7 c8) = S := ⟨_, rfl⟩
        have HSZ : Hid (∀ w, Calls Try.prog 23 #[.agg #[.int .i64 c0, .int .i64 c1, .int .i64 c2, .int .i64 c3, .int .i64 c4, .int .i64 c5, .int .i64 c6, .int .i64 c7, .int .i64 c8]] w fun e w' => e = .returned (.int .i64 S) ∧ Below w.heap.size w w') := fun w => by have := l08Size_any c0 c1 c2 c3 c4 c5 c6 c7 c8 w ((isSp_W3 HK0.out).up (by omega)) ((isSp_W3 HK1.out).up (by omega)) ((isSp_W3 HK2.out).up (by omega)); rwa [hS] at this
        by_cases hz : S = 0
        · subst hz
          have HV : Hid (isCo c0 c1 c2 c3 c4 c5 c6 c7 c8 = false) := by show _ = _; simp [isCo, abs0.1 hS]
          clear hS
          obtain ⟨GC, hG⟩ : ∃ G, w.heap.size = G := ⟨_, rfl⟩
          have HG := Lib.hid hG
          go_enter Try.func16, Try.ntmps16
          go_upto_region 1 with fail
          obtain ⟨w0, hw0⟩ : ∃ w0, w0 = (w.alloc (.cells #[.int .i64 c0, .int .i64 c1, .int .i64 c2, .int .i64 c3, .int .i64 c4, .int .i64 c5, .int .i64 c6, .int .i64 c7, .int .i64 c8] 30)) := ⟨_, rfl⟩
          rw [← hw0]
          have HC : Hid (Bk9 w0 GC c0 c1 c2 c3 c4 c5 c6 c7 c8) := by
            have h := (bk9_new w c0 c1 c2 c3 c4 c5 c6 c7 c8 30).below (W' := (w.alloc (.cells #[.int .i64 c0, .int .i64 c1, .int .i64 c2, .int .i64 c3, .int .i64 c4, .int .i64 c5, .int .i64 c6, .int .i64 c7, .int .i64 c8] 30))) (by (repeat' (first | (with_reducible exact Below.refl _ _) | (with_reducible refine Below.alloc ?_ ?_ _) | (with_reducible refine Below.setCell ?_ ?_ _) | (with_reducible refine Below.drew ?_) | (with_reducible refine below_drewN ?_ _) | (with_reducible assumption) | (with_reducible refine below_after (by with_reducible assumption) ?_) | go_size)))
            (try simp only [World.size_alloc] at h)
            rw [hG] at h
            rw [hw0]; exact h
          have HB : Hid (Below w.heap.size w w0) := by show Below w.heap.size w w0; rw [hw0]; (repeat' (first | (with_reducible exact Below.refl _ _) | (with_reducible refine Below.alloc ?_ ?_ _) | (with_reducible refine Below.setCell ?_ ?_ _) | (with_reducible refine Below.drew ?_) | (with_reducible refine below_drewN ?_ _) | (with_reducible assumption) | (with_reducible refine below_after (by with_reducible assumption) ?_) | go_size))
          clear hw0
          have le_C : w.heap.size ≤ GC := by omega
          obtain ⟨⟨qC0, qC1, qC2, qC3, qC4, qC5, qC6, qC7, qC8⟩, ⟨fC0, fC1, fC2, fC3, fC4, fC5, fC6, fC7, fC8⟩, zC⟩ := HC.out
          go_wp2_with fail
          go_at_call 15
          refine (HS0.out _).mono ?_
          rintro e w1 ⟨rfl, hb⟩
          clear qC0 fC0 qC1 fC1 qC2 fC2 qC3 fC3 qC4 fC4 qC5 fC5 qC6 fC6 qC7 fC7 qC8 fC8 zC
          have HC := Lib.hid (HC.out.below hb)
          have HB := Lib.hid (below_after hb HB.out)
          clear hb
          obtain ⟨⟨qC0, qC1, qC2, qC3, qC4, qC5, qC6, qC7, qC8⟩, ⟨fC0, fC1, fC2, fC3, fC4, fC5, fC6, fC7, fC8⟩, zC⟩ := HC.out
          go_wp2_with fail
          go_at_call 15
          refine (HS1.out _).mono ?_
          rintro e w2 ⟨rfl, hb⟩
          clear qC0 fC0 qC1 fC1 qC2 fC2 qC3 fC3 qC4 fC4 qC5 fC5 qC6 fC6 qC7 fC7 qC8 fC8 zC
          have HC := Lib.hid (HC.out.below hb)
          have HB := Lib.hid (below_after hb HB.out)
          clear hb
          obtain ⟨⟨qC0, qC1, qC2, qC3, qC4, qC5, qC6, qC7, qC8⟩, ⟨fC0, fC1, fC2, fC3, fC4, fC5, fC6, fC7, fC8⟩, zC⟩ := HC.out
          go_wp2_with fail
          go_at_call 15
          refine (HS2.out _).mono ?_
          rintro e w3 ⟨rfl, hb⟩
          clear qC0 fC0 qC1 fC1 qC2 fC2 qC3 fC3 qC4 fC4 qC5 fC5 qC6 fC6 qC7 fC7 qC8 fC8 zC
          have HC := Lib.hid (HC.out.below hb)
          have HB := Lib.hid (below_after hb HB.out)
          clear hb
          obtain ⟨⟨qC0, qC1, qC2, qC3, qC4, qC5, qC6, qC7, qC8⟩, ⟨fC0, fC1, fC2, fC3, fC4, fC5, fC6, fC7, fC8⟩, zC⟩ := HC.out
          go_wp2_with fail
          go_at_call 23
          refine (HSZ.out _).mono ?_
          rintro e w4 ⟨rfl, hb⟩
          clear qC0 fC0 qC1 fC1 qC2 fC2 qC3 fC3 qC4 fC4 qC5 fC5 qC6 fC6 qC7 fC7 qC8 fC8 zC
          have HC := Lib.hid (HC.out.below hb)
          have HB := Lib.hid (below_after hb HB.out)
          clear hb
          obtain ⟨⟨qC0, qC1, qC2, qC3, qC4, qC5, qC6, qC7, qC8⟩, ⟨fC0, fC1, fC2, fC3, fC4, fC5, fC6, fC7, fC8⟩, zC⟩ := HC.out
          go_wp2_with fail
          refine bodyPost_ret (v := .bool false) (by simp (maxDischargeDepth := 8) [results, Try.results16, go_sem, *]) rfl ?_
          have hb := HB.out
          exact ⟨by rw [HV.out], by (repeat' (first | (with_reducible exact Below.refl _ _) | (with_reducible refine Below.alloc ?_ ?_ _) | (with_reducible refine Below.setCell ?_ ?_ _) | (with_reducible refine Below.drew ?_) | (with_reducible refine below_drewN ?_ _) | (with_reducible assumption) | (with_reducible refine below_after (by with_reducible assumption) ?_) | go_size))⟩
        · have HV : Hid (isCo c0 c1 c2 c3 c4 c5 c6 c7 c8 = true) := by
            show _ = _
            have hd : (detV c0 c1 c2 c3 c4 c5 c6 c7 c8) ≠ 0 := fun h => hz (by rw [← hS]; exact abs0.2 h)
            simp [isCo, hd, HK0.out, HK1.out, HK2.out]
          clear hS
          obtain ⟨GC, hG⟩ : ∃ G, w.heap.size = G := ⟨_, rfl⟩
          have HG := Lib.hid hG
          go_enter Try.func16, Try.ntmps16
          go_upto_region 1 with fail
          obtain ⟨w0, hw0⟩ : ∃ w0, w0 = (w.alloc (.cells #[.int .i64 c0, .int .i64 c1, .int .i64 c2, .int .i64 c3, .int .i64 c4, .int .i64 c5, .int .i64 c6, .int .i64 c7, .int .i64 c8] 30)) := ⟨_, rfl⟩
          rw [← hw0]
          have HC : Hid (Bk9 w0 GC c0 c1 c2 c3 c4 c5 c6 c7 c8) := by
            have h := (bk9_new w c0 c1 c2 c3 c4 c5 c6 c7 c8 30).below (W' := (w.alloc (.cells #[.int .i64 c0, .int .i64 c1, .int .i64 c2, .int .i64 c3, .int .i64 c4, .int .i64 c5, .int .i64 c6, .int .i64 c7, .int .i64 c8] 30))) (by (repeat' (first | (with_reducible exact Below.refl _ _) | (with_reducible refine Below.alloc ?_ ?_ _) | (with_reducible refine Below.setCell ?_ ?_ _) | (with_reducible refine Below.drew ?_) | (with_reducible refine below_drewN ?_ _) | (with_reducible assumption) | (with_reducible refine below_after (by with_reducible assumption) ?_) | go_size)))
            (try simp only [World.size_alloc] at h)
            rw [hG] at h
            rw [hw0]; exact h
          have HB : Hid (Below w.heap.size w w0) := by show Below w.heap.size w w0; rw [hw0]; (repeat' (first | (with_reducible exact Below.refl _ _) | (with_reducible refine Below.alloc ?_ ?_ _) | (with_reducible refine Below.setCell ?_ ?_ _) | (with_reducible refine Below.drew ?_) | (with_reducible refine below_drewN ?_ _) | (with_reducible assumption) | (with_reducible refine below_after (by with_reducible assumption) ?_) | go_size))
          clear hw0
          have le_C : w.heap.size ≤ GC := by omega
          obtain ⟨⟨qC0, qC1, qC2, qC3, qC4, qC5, qC6, qC7, qC8⟩, ⟨fC0, fC1, fC2, fC3, fC4, fC5, fC6, fC7, fC8⟩, zC⟩ := HC.out
          go_wp2_with fail
          go_at_call 15
          refine (HS0.out _).mono ?_
          rintro e w1 ⟨rfl, hb⟩
          clear qC0 fC0 qC1 fC1 qC2 fC2 qC3 fC3 qC4 fC4 qC5 fC5 qC6 fC6 qC7 fC7 qC8 fC8 zC
          have HC := Lib.hid (HC.out.below hb)
          have HB := Lib.hid (below_after hb HB.out)
          clear hb
          obtain ⟨⟨qC0, qC1, qC2, qC3, qC4, qC5, qC6, qC7, qC8⟩, ⟨fC0, fC1, fC2, fC3, fC4, fC5, fC6, fC7, fC8⟩, zC⟩ := HC.out
          go_wp2_with fail
          go_at_call 15
          refine (HS1.out _).mono ?_
          rintro e w2 ⟨rfl, hb⟩
          clear qC0 fC0 qC1 fC1 qC2 fC2 qC3 fC3 qC4 fC4 qC5 fC5 qC6 fC6 qC7 fC7 qC8 fC8 zC
          have HC := Lib.hid (HC.out.below hb)
          have HB := Lib.hid (below_after hb HB.out)
          clear hb
          obtain ⟨⟨qC0, qC1, qC2, qC3, qC4, qC5, qC6, qC7, qC8⟩, ⟨fC0, fC1, fC2, fC3, fC4, fC5, fC6, fC7, fC8⟩, zC⟩ := HC.out
          go_wp2_with fail
          go_at_call 15
          refine (HS2.out _).mono ?_
          rintro e w3 ⟨rfl, hb⟩
          clear qC0 fC0 qC1 fC1 qC2 fC2 qC3 fC3 qC4 fC4 qC5 fC5 qC6 fC6 qC7 fC7 qC8 fC8 zC
          have HC := Lib.hid (HC.out.below hb)
          have HB := Lib.hid (below_after hb HB.out)
          clear hb
          obtain ⟨⟨qC0, qC1, qC2, qC3, qC4, qC5, qC6, qC7, qC8⟩, ⟨fC0, fC1, fC2, fC3, fC4, fC5, fC6, fC7, fC8⟩, zC⟩ := HC.out
          go_wp2_with fail
          go_at_call 23
          refine (HSZ.out _).mono ?_
          rintro e w4 ⟨rfl, hb⟩
          clear qC0 fC0 qC1 fC1 qC2 fC2 qC3 fC3 qC4 fC4 qC5 fC5 qC6 fC6 qC7 fC7 qC8 fC8 zC
          have HC := Lib.hid (HC.out.below hb)
          have HB := Lib.hid (below_after hb HB.out)
          clear hb
          obtain ⟨⟨qC0, qC1, qC2, qC3, qC4, qC5, qC6, qC7, qC8⟩, ⟨fC0, fC1, fC2, fC3, fC4, fC5, fC6, fC7, fC8⟩, zC⟩ := HC.out
          go_wp2_with fail
          refine bodyPost_ret (v := .bool true) (by simp (maxDischargeDepth := 8) [results, Try.results16, go_sem, *]) rfl ?_
          have hb := HB.out
          exact ⟨by rw [HV.out], by (repeat' (first | (with_reducible exact Below.refl _ _) | (with_reducible refine Below.alloc ?_ ?_ _) | (with_reducible refine Below.setCell ?_ ?_ _) | (with_reducible refine Below.drew ?_) | (with_reducible refine below_drewN ?_ _) | (with_reducible assumption) | (with_reducible refine below_after (by with_reducible assumption) ?_) | go_size))⟩
end Go.Proofs.Ytjjblgmokmalaaa
