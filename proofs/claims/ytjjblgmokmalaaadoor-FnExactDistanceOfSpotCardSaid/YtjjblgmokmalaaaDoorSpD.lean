/-
  Chapter 8 in the model: the exported functions (own work).
-/
import Derived.Test.YtjjblgmokmalaaaDoorSpC
import Derived.Test.YtjjblgmokmalaaaDoorMkE
import Derived.Test.YtjjblgmokmalaaaDoorSpE
namespace Go.Proofs.YtjjblgmokmalaaaDoor
open Go.ChangeShapes Go.WideShapes Go.ChangeAt Go.RowKit
set_option linter.unusedVariables false
set_option maxRecDepth 100000
set_option linter.unusedSimpArgs false
set_option maxRecDepth 100000

def inV (x y z : Int) : Bool := decide (0 ≤ x) && decide (0 ≤ y) && decide (0 ≤ z)
def crK (a0 a1 a2 b0 b1 b2 : Int) : Int := bok (isSp a0 a1 a2 && isSp b0 b1 b2)
def crL (a0 a1 a2 b0 b1 b2 : Int) : List Int := bls (isSp a0 a1 a2 && isSp b0 b1 b2) [crX a0 a1 a2 b0 b1 b2, crY a0 a1 a2 b0 b1 b2, crZ a0 a1 a2 b0 b1 b2]
def dsK (a0 a1 a2 b0 b1 b2 c0 c1 c2 : Int) : Int := bok (isSp a0 a1 a2 && isSp b0 b1 b2 && isSp c0 c1 c2)
def dsV (a0 a1 a2 b0 b1 b2 c0 c1 c2 : Int) : Int := bvl (isSp a0 a1 a2 && isSp b0 b1 b2 && isSp c0 c1 c2) (detV a0 a1 a2 b0 b1 b2 c0 c1 c2)
def leK (a0 a1 a2 : Int) : Int := bok (isSp a0 a1 a2)
def leV (a0 a1 a2 : Int) : Int := bvl (isSp a0 a1 a2) (lenV a0 a1 a2)
def ciO (c0 c1 c2 c3 c4 c5 c6 c7 c8 a0 a1 a2 : Int) : Bool := isCo c0 c1 c2 c3 c4 c5 c6 c7 c8 && isSp a0 a1 a2
def ciL (c0 c1 c2 c3 c4 c5 c6 c7 c8 a0 a1 a2 : Int) : List Int := bls (ciO c0 c1 c2 c3 c4 c5 c6 c7 c8 a0 a1 a2) [co0 c0 c1 c2 c3 c4 c5 c6 c7 c8 a0 a1 a2, co1 c0 c1 c2 c3 c4 c5 c6 c7 c8 a0 a1 a2, co2 c0 c1 c2 c3 c4 c5 c6 c7 c8 a0 a1 a2]
def icV (c0 c1 c2 c3 c4 c5 c6 c7 c8 a0 a1 a2 : Int) : Bool := ciO c0 c1 c2 c3 c4 c5 c6 c7 c8 a0 a1 a2 && inV (co0 c0 c1 c2 c3 c4 c5 c6 c7 c8 a0 a1 a2) (co1 c0 c1 c2 c3 c4 c5 c6 c7 c8 a0 a1 a2) (co2 c0 c1 c2 c3 c4 c5 c6 c7 c8 a0 a1 a2)
def rcV (c0 c1 c2 c3 c4 c5 c6 c7 c8 : Int) : Bool := isCo c0 c1 c2 c3 c4 c5 c6 c7 c8 && (absI (detV c0 c1 c2 c3 c4 c5 c6 c7 c8) == 1)
def vtV (t0 t1 t2 t3 t4 t5 t6 t7 t8 t9 t10 t11 : Int) : Int := bvl (isTe t0 t1 t2 t3 t4 t5 t6 t7 t8 t9 t10 t11) (voV t0 t1 t2 t3 t4 t5 t6 t7 t8 t9 t10 t11)
theorem crL_len (a0 a1 a2 b0 b1 b2 : Int) : (crL a0 a1 a2 b0 b1 b2).length ≤ 8388608 := by unfold crL bls; cases (isSp a0 a1 a2 && isSp b0 b1 b2) <;> simp
theorem ciL_len (c0 c1 c2 c3 c4 c5 c6 c7 c8 a0 a1 a2 : Int) : (ciL c0 c1 c2 c3 c4 c5 c6 c7 c8 a0 a1 a2).length ≤ 8388608 := by unfold ciL bls; cases (ciO c0 c1 c2 c3 c4 c5 c6 c7 c8 a0 a1 a2) <;> simp
set_option maxHeartbeats 800000 in
theorem spec_CrossOf_any (a0 a1 a2 b0 b1 b2 : Int) (w : World) :
    Calls Tryd.prog 14 #[.agg #[.int .i64 a0, .int .i64 a1, .int .i64 a2], .agg #[.int .i64 b0, .int .i64 b1, .int .i64 b2]] w fun e w' => ∃ v, e = .returned (.tuple #[v, .int .i64 (crK a0 a1 a2 b0 b1 b2)]) ∧ OwnE 2 w.heap.size w' v (crL a0 a1 a2 b0 b1 b2) ∧ Below w.heap.size w w' := by
  cases k0 : isSp a0 a1 a2
  · skip
    have HK0 := Lib.hid k0
    have HS0 : Hid (∀ w, Calls Tryd.prog 45 #[.agg #[.int .i64 a0, .int .i64 a1, .int .i64 a2]] w fun e w' => e = .returned (.bool false) ∧ Below w.heap.size w w') := fun w => by have := l08Spot_any a0 a1 a2 w; rwa [k0] at this
    clear k0
    obtain ⟨GA, hG⟩ : ∃ G, w.heap.size = G := ⟨_, rfl⟩
    have HG := Lib.hid hG
    go_enter Tryd.func14, Tryd.ntmps14
    go_upto_region 1 with fail
    obtain ⟨w0, hw0⟩ : ∃ w0, w0 = ((w.alloc (.cells #[.int .i64 a0, .int .i64 a1, .int .i64 a2] 26)).alloc (.cells #[.int .i64 b0, .int .i64 b1, .int .i64 b2] 26)) := ⟨_, rfl⟩
    rw [← hw0]
    have HA : Hid (Bk3 w0 GA a0 a1 a2) := by
      have h := (bk3_new w a0 a1 a2 26).below (W' := ((w.alloc (.cells #[.int .i64 a0, .int .i64 a1, .int .i64 a2] 26)).alloc (.cells #[.int .i64 b0, .int .i64 b1, .int .i64 b2] 26))) (by (repeat' (first | (with_reducible exact Below.refl _ _) | (with_reducible refine Below.alloc ?_ ?_ _) | (with_reducible refine Below.setCell ?_ ?_ _) | (with_reducible refine Below.drew ?_) | (with_reducible refine below_drewN ?_ _) | (with_reducible assumption) | (with_reducible refine below_after (by with_reducible assumption) ?_) | go_size)))
      (try simp only [World.size_alloc] at h)
      rw [hG] at h
      rw [hw0]; exact h
    have HV : Hid (Bk3 w0 (GA + 1) b0 b1 b2) := by
      have h := (bk3_new (w.alloc (.cells #[.int .i64 a0, .int .i64 a1, .int .i64 a2] 26)) b0 b1 b2 26).below (W' := ((w.alloc (.cells #[.int .i64 a0, .int .i64 a1, .int .i64 a2] 26)).alloc (.cells #[.int .i64 b0, .int .i64 b1, .int .i64 b2] 26))) (by (repeat' (first | (with_reducible exact Below.refl _ _) | (with_reducible refine Below.alloc ?_ ?_ _) | (with_reducible refine Below.setCell ?_ ?_ _) | (with_reducible refine Below.drew ?_) | (with_reducible refine below_drewN ?_ _) | (with_reducible assumption) | (with_reducible refine below_after (by with_reducible assumption) ?_) | go_size)))
      (try simp only [World.size_alloc] at h)
      rw [hG] at h
      rw [hw0]; exact h
    have HB : Hid (Below w.heap.size w w0) := by show Below w.heap.size w w0; rw [hw0]; (repeat' (first | (with_reducible exact Below.refl _ _) | (with_reducible refine Below.alloc ?_ ?_ _) | (with_reducible refine Below.setCell ?_ ?_ _) | (with_reducible refine Below.drew ?_) | (with_reducible refine below_drewN ?_ _) | (with_reducible assumption) | (with_reducible refine below_after (by with_reducible assumption) ?_) | go_size))
    clear hw0
    obtain ⟨GV, hGV⟩ : ∃ g, GA + 1 = g := ⟨_, rfl⟩
    rw [hGV] at HV ⊢
    have le_A : w.heap.size ≤ GA := by omega
    have le_V : w.heap.size ≤ GV := by omega
    have ne_V_A : GV ≠ GA := by omega
    have ne_A_V : GA ≠ GV := by omega
    clear hGV
    obtain ⟨⟨qA0, qA1, qA2⟩, ⟨fA0, fA1, fA2⟩, zA⟩ := HA.out
    obtain ⟨⟨qV0, qV1, qV2⟩, ⟨fV0, fV1, fV2⟩, zV⟩ := HV.out
    go_wp2_with fail
    go_at_call 45
    refine (HS0.out _).mono ?_
    rintro e w1 ⟨rfl, hb⟩
    clear qA0 fA0 qA1 fA1 qA2 fA2 zA qV0 fV0 qV1 fV1 qV2 fV2 zV
    have HA := Lib.hid (HA.out.below hb)
    have HV := Lib.hid (HV.out.below hb)
    have HB := Lib.hid (below_after hb HB.out)
    clear hb
    obtain ⟨⟨qA0, qA1, qA2⟩, ⟨fA0, fA1, fA2⟩, zA⟩ := HA.out
    obtain ⟨⟨qV0, qV1, qV2⟩, ⟨fV0, fV1, fV2⟩, zV⟩ := HV.out
    go_wp2_with fail
    refine bodyPost_ret (v := .tuple #[.slice none 0 0, .int .i64 1]) (by simp (maxDischargeDepth := 8) [results, Tryd.results14, go_sem, *]) rfl ?_
    have hb := HB.out
    exact ⟨.slice none 0 0, by simp [crL, crK, bls, bok, HK0.out], by simp [crL, crK, bls, bok, HK0.out]; exact OwnE.nil _ _, by (repeat' (first | (with_reducible exact Below.refl _ _) | (with_reducible refine Below.alloc ?_ ?_ _) | (with_reducible refine Below.setCell ?_ ?_ _) | (with_reducible refine Below.drew ?_) | (with_reducible refine below_drewN ?_ _) | (with_reducible assumption) | (with_reducible refine below_after (by with_reducible assumption) ?_) | go_size))⟩
  · skip
    have HK0 := Lib.hid k0
    have HS0 : Hid (∀ w, Calls Tryd.prog 45 #[.agg #[.int .i64 a0, .int .i64 a1, .int .i64 a2]] w fun e w' => e = .returned (.bool true) ∧ Below w.heap.size w w') := fun w => by have := l08Spot_any a0 a1 a2 w; rwa [k0] at this
    clear k0
    cases k1 : isSp b0 b1 b2
    · skip
      have HK1 := Lib.hid k1
      have HS1 : Hid (∀ w, Calls Tryd.prog 45 #[.agg #[.int .i64 b0, .int .i64 b1, .int .i64 b2]] w fun e w' => e = .returned (.bool false) ∧ Below w.heap.size w w') := fun w => by have := l08Spot_any b0 b1 b2 w; rwa [k1] at this
      clear k1
      obtain ⟨GA, hG⟩ : ∃ G, w.heap.size = G := ⟨_, rfl⟩
      have HG := Lib.hid hG
      go_enter Tryd.func14, Tryd.ntmps14
      go_upto_region 1 with fail
      obtain ⟨w0, hw0⟩ : ∃ w0, w0 = ((w.alloc (.cells #[.int .i64 a0, .int .i64 a1, .int .i64 a2] 26)).alloc (.cells #[.int .i64 b0, .int .i64 b1, .int .i64 b2] 26)) := ⟨_, rfl⟩
      rw [← hw0]
      have HA : Hid (Bk3 w0 GA a0 a1 a2) := by
        have h := (bk3_new w a0 a1 a2 26).below (W' := ((w.alloc (.cells #[.int .i64 a0, .int .i64 a1, .int .i64 a2] 26)).alloc (.cells #[.int .i64 b0, .int .i64 b1, .int .i64 b2] 26))) (by (repeat' (first | (with_reducible exact Below.refl _ _) | (with_reducible refine Below.alloc ?_ ?_ _) | (with_reducible refine Below.setCell ?_ ?_ _) | (with_reducible refine Below.drew ?_) | (with_reducible refine below_drewN ?_ _) | (with_reducible assumption) | (with_reducible refine below_after (by with_reducible assumption) ?_) | go_size)))
        (try simp only [World.size_alloc] at h)
        rw [hG] at h
        rw [hw0]; exact h
      have HV : Hid (Bk3 w0 (GA + 1) b0 b1 b2) := by
        have h := (bk3_new (w.alloc (.cells #[.int .i64 a0, .int .i64 a1, .int .i64 a2] 26)) b0 b1 b2 26).below (W' := ((w.alloc (.cells #[.int .i64 a0, .int .i64 a1, .int .i64 a2] 26)).alloc (.cells #[.int .i64 b0, .int .i64 b1, .int .i64 b2] 26))) (by (repeat' (first | (with_reducible exact Below.refl _ _) | (with_reducible refine Below.alloc ?_ ?_ _) | (with_reducible refine Below.setCell ?_ ?_ _) | (with_reducible refine Below.drew ?_) | (with_reducible refine below_drewN ?_ _) | (with_reducible assumption) | (with_reducible refine below_after (by with_reducible assumption) ?_) | go_size)))
        (try simp only [World.size_alloc] at h)
        rw [hG] at h
        rw [hw0]; exact h
      have HB : Hid (Below w.heap.size w w0) := by show Below w.heap.size w w0; rw [hw0]; (repeat' (first | (with_reducible exact Below.refl _ _) | (with_reducible refine Below.alloc ?_ ?_ _) | (with_reducible refine Below.setCell ?_ ?_ _) | (with_reducible refine Below.drew ?_) | (with_reducible refine below_drewN ?_ _) | (with_reducible assumption) | (with_reducible refine below_after (by with_reducible assumption) ?_) | go_size))
      clear hw0
      obtain ⟨GV, hGV⟩ : ∃ g, GA + 1 = g := ⟨_, rfl⟩
      rw [hGV] at HV ⊢
      have le_A : w.heap.size ≤ GA := by omega
      have le_V : w.heap.size ≤ GV := by omega
      have ne_V_A : GV ≠ GA := by omega
      have ne_A_V : GA ≠ GV := by omega
      clear hGV
      obtain ⟨⟨qA0, qA1, qA2⟩, ⟨fA0, fA1, fA2⟩, zA⟩ := HA.out
      obtain ⟨⟨qV0, qV1, qV2⟩, ⟨fV0, fV1, fV2⟩, zV⟩ := HV.out
      go_wp2_with fail
      go_at_call 45
      refine (HS0.out _).mono ?_
      rintro e w1 ⟨rfl, hb⟩
      clear qA0 fA0 qA1 fA1 qA2 fA2 zA qV0 fV0 qV1 fV1 qV2 fV2 zV
      have HA := Lib.hid (HA.out.below hb)
      have HV := Lib.hid (HV.out.below hb)
      have HB := Lib.hid (below_after hb HB.out)
      clear hb
      obtain ⟨⟨qA0, qA1, qA2⟩, ⟨fA0, fA1, fA2⟩, zA⟩ := HA.out
      obtain ⟨⟨qV0, qV1, qV2⟩, ⟨fV0, fV1, fV2⟩, zV⟩ := HV.out
      go_wp2_with fail
      go_at_call 45
      refine (HS1.out _).mono ?_
      rintro e w2 ⟨rfl, hb⟩
      clear qA0 fA0 qA1 fA1 qA2 fA2 zA qV0 fV0 qV1 fV1 qV2 fV2 zV
      have HA := Lib.hid (HA.out.below hb)
      have HV := Lib.hid (HV.out.below hb)
      have HB := Lib.hid (below_after hb HB.out)
      clear hb
      obtain ⟨⟨qA0, qA1, qA2⟩, ⟨fA0, fA1, fA2⟩, zA⟩ := HA.out
      obtain ⟨⟨qV0, qV1, qV2⟩, ⟨fV0, fV1, fV2⟩, zV⟩ := HV.out
      go_wp2_with fail
      refine bodyPost_ret (v := .tuple #[.slice none 0 0, .int .i64 1]) (by simp (maxDischargeDepth := 8) [results, Tryd.results14, go_sem, *]) rfl ?_
      have hb := HB.out
      exact ⟨.slice none 0 0, by simp [crL, crK, bls, bok, HK0.out, HK1.out], by simp [crL, crK, bls, bok, HK0.out, HK1.out]; exact OwnE.nil _ _, by (repeat' (first | (with_reducible exact Below.refl _ _) | (with_reducible refine Below.alloc ?_ ?_ _) | (with_reducible refine Below.setCell ?_ ?_ _) | (with_reducible refine Below.drew ?_) | (with_reducible refine below_drewN ?_ _) | (with_reducible assumption) | (with_reducible refine below_after (by with_reducible assumption) ?_) | go_size))⟩
    · skip
      have HK1 := Lib.hid k1
      have HS1 : Hid (∀ w, Calls Tryd.prog 45 #[.agg #[.int .i64 b0, .int .i64 b1, .int .i64 b2]] w fun e w' => e = .returned (.bool true) ∧ Below w.heap.size w w') := fun w => by have := l08Spot_any b0 b1 b2 w; rwa [k1] at this
      clear k1
      have HCR : Hid (∀ w, Calls Tryd.prog 46 #[.agg #[.int .i64 a0, .int .i64 a1, .int .i64 a2], .agg #[.int .i64 b0, .int .i64 b1, .int .i64 b2]] w fun e w' => e = .returned (.agg #[.int .i64 (crX a0 a1 a2 b0 b1 b2), .int .i64 (crY a0 a1 a2 b0 b1 b2), .int .i64 (crZ a0 a1 a2 b0 b1 b2)]) ∧ Below w.heap.size w w') := fun w => l08Cross_any a0 a1 a2 b0 b1 b2 w ((isSp_W3 HK0.out).up (by omega)) ((isSp_W3 HK1.out).up (by omega))
      have HE : Hid (crL a0 a1 a2 b0 b1 b2 = [crX a0 a1 a2 b0 b1 b2, crY a0 a1 a2 b0 b1 b2, crZ a0 a1 a2 b0 b1 b2] ∧ crK a0 a1 a2 b0 b1 b2 = 0) := by
        refine ⟨?_, ?_⟩
        · simp [crL, bls, HK0.out, HK1.out]
        · simp [crK, bok, HK0.out, HK1.out]
      generalize crX a0 a1 a2 b0 b1 b2 = X at *
      generalize crY a0 a1 a2 b0 b1 b2 = Y at *
      generalize crZ a0 a1 a2 b0 b1 b2 = Z at *
      generalize crL a0 a1 a2 b0 b1 b2 = L at *
      generalize crK a0 a1 a2 b0 b1 b2 = K at *
      obtain ⟨GA, hG⟩ : ∃ G, w.heap.size = G := ⟨_, rfl⟩
      have HG := Lib.hid hG
      go_enter Tryd.func14, Tryd.ntmps14
      go_upto_region 1 with fail
      obtain ⟨w0, hw0⟩ : ∃ w0, w0 = ((w.alloc (.cells #[.int .i64 a0, .int .i64 a1, .int .i64 a2] 26)).alloc (.cells #[.int .i64 b0, .int .i64 b1, .int .i64 b2] 26)) := ⟨_, rfl⟩
      rw [← hw0]
      have HA : Hid (Bk3 w0 GA a0 a1 a2) := by
        have h := (bk3_new w a0 a1 a2 26).below (W' := ((w.alloc (.cells #[.int .i64 a0, .int .i64 a1, .int .i64 a2] 26)).alloc (.cells #[.int .i64 b0, .int .i64 b1, .int .i64 b2] 26))) (by (repeat' (first | (with_reducible exact Below.refl _ _) | (with_reducible refine Below.alloc ?_ ?_ _) | (with_reducible refine Below.setCell ?_ ?_ _) | (with_reducible refine Below.drew ?_) | (with_reducible refine below_drewN ?_ _) | (with_reducible assumption) | (with_reducible refine below_after (by with_reducible assumption) ?_) | go_size)))
        (try simp only [World.size_alloc] at h)
        rw [hG] at h
        rw [hw0]; exact h
      have HV : Hid (Bk3 w0 (GA + 1) b0 b1 b2) := by
        have h := (bk3_new (w.alloc (.cells #[.int .i64 a0, .int .i64 a1, .int .i64 a2] 26)) b0 b1 b2 26).below (W' := ((w.alloc (.cells #[.int .i64 a0, .int .i64 a1, .int .i64 a2] 26)).alloc (.cells #[.int .i64 b0, .int .i64 b1, .int .i64 b2] 26))) (by (repeat' (first | (with_reducible exact Below.refl _ _) | (with_reducible refine Below.alloc ?_ ?_ _) | (with_reducible refine Below.setCell ?_ ?_ _) | (with_reducible refine Below.drew ?_) | (with_reducible refine below_drewN ?_ _) | (with_reducible assumption) | (with_reducible refine below_after (by with_reducible assumption) ?_) | go_size)))
        (try simp only [World.size_alloc] at h)
        rw [hG] at h
        rw [hw0]; exact h
      have HB : Hid (Below w.heap.size w w0) := by show Below w.heap.size w w0; rw [hw0]; (repeat' (first | (with_reducible exact Below.refl _ _) | (with_reducible refine Below.alloc ?_ ?_ _) | (with_reducible refine Below.setCell ?_ ?_ _) | (with_reducible refine Below.drew ?_) | (with_reducible refine below_drewN ?_ _) | (with_reducible assumption) | (with_reducible refine below_after (by with_reducible assumption) ?_) | go_size))
      clear hw0
      obtain ⟨GV, hGV⟩ : ∃ g, GA + 1 = g := ⟨_, rfl⟩
      rw [hGV] at HV ⊢
      have le_A : w.heap.size ≤ GA := by omega
      have le_V : w.heap.size ≤ GV := by omega
      have ne_V_A : GV ≠ GA := by omega
      have ne_A_V : GA ≠ GV := by omega
      clear hGV
      obtain ⟨⟨qA0, qA1, qA2⟩, ⟨fA0, fA1, fA2⟩, zA⟩ := HA.out
      obtain ⟨⟨qV0, qV1, qV2⟩, ⟨fV0, fV1, fV2⟩, zV⟩ := HV.out
      go_wp2_with fail
      go_at_call 45
      refine (HS0.out _).mono ?_
      rintro e w1 ⟨rfl, hb⟩
      clear qA0 fA0 qA1 fA1 qA2 fA2 zA qV0 fV0 qV1 fV1 qV2 fV2 zV
      have HA := Lib.hid (HA.out.below hb)
      have HV := Lib.hid (HV.out.below hb)
      have HB := Lib.hid (below_after hb HB.out)
      clear hb
      obtain ⟨⟨qA0, qA1, qA2⟩, ⟨fA0, fA1, fA2⟩, zA⟩ := HA.out
      obtain ⟨⟨qV0, qV1, qV2⟩, ⟨fV0, fV1, fV2⟩, zV⟩ := HV.out
      go_wp2_with fail
      go_at_call 45
      refine (HS1.out _).mono ?_
      rintro e w2 ⟨rfl, hb⟩
      clear qA0 fA0 qA1 fA1 qA2 fA2 zA qV0 fV0 qV1 fV1 qV2 fV2 zV
      have HA := Lib.hid (HA.out.below hb)
      have HV := Lib.hid (HV.out.below hb)
      have HB := Lib.hid (below_after hb HB.out)
      clear hb
      obtain ⟨⟨qA0, qA1, qA2⟩, ⟨fA0, fA1, fA2⟩, zA⟩ := HA.out
      obtain ⟨⟨qV0, qV1, qV2⟩, ⟨fV0, fV1, fV2⟩, zV⟩ := HV.out
      go_wp2_with fail
      go_at_call 46
      refine (HCR.out _).mono ?_
      rintro e w3 ⟨rfl, hb⟩
      clear qA0 fA0 qA1 fA1 qA2 fA2 zA qV0 fV0 qV1 fV1 qV2 fV2 zV
      have HA := Lib.hid (HA.out.below hb)
      have HV := Lib.hid (HV.out.below hb)
      have HB := Lib.hid (below_after hb HB.out)
      clear hb
      obtain ⟨⟨qA0, qA1, qA2⟩, ⟨fA0, fA1, fA2⟩, zA⟩ := HA.out
      obtain ⟨⟨qV0, qV1, qV2⟩, ⟨fV0, fV1, fV2⟩, zV⟩ := HV.out
      go_upto_region 4 with fail
      obtain ⟨GX, hGX⟩ : ∃ g, w3.heap.size = g := ⟨_, rfl⟩
      obtain ⟨w4, hw4⟩ : ∃ wx, wx = w3.alloc (.cells #[.int .i64 X, .int .i64 Y, .int .i64 Z] 26) := ⟨_, rfl⟩
      rw [← hw4, hGX]
      have HX : Hid (Bk3 w4 GX X Y Z) := by rw [hw4, ← hGX]; exact bk3_new w3 X Y Z _
      have le_X : w.heap.size ≤ GX := by rw [← hGX]; exact HB.out.size
      have ne_X_A : GX ≠ GA := by have := HA.out.2.2; omega
      have ne_A_X : GA ≠ GX := Ne.symm ne_X_A
      have ne_X_V : GX ≠ GV := by have := HV.out.2.2; omega
      have ne_V_X : GV ≠ GX := Ne.symm ne_X_V
      clear qA0 fA0 qA1 fA1 qA2 fA2 zA qV0 fV0 qV1 fV1 qV2 fV2 zV
      have HA := Lib.hid (HA.out.below ((Below.refl _ _).alloc (Nat.le_refl _) (.cells #[.int .i64 X, .int .i64 Y, .int .i64 Z] 26)))
      have HV := Lib.hid (HV.out.below ((Below.refl _ _).alloc (Nat.le_refl _) (.cells #[.int .i64 X, .int .i64 Y, .int .i64 Z] 26)))
      have HB := Lib.hid (Below.alloc HB.out HB.out.size (.cells #[.int .i64 X, .int .i64 Y, .int .i64 Z] 26))
      rw [← hw4] at HA HV HB
      clear hw4 hGX
      obtain ⟨⟨qA0, qA1, qA2⟩, ⟨fA0, fA1, fA2⟩, zA⟩ := HA.out
      obtain ⟨⟨qV0, qV1, qV2⟩, ⟨fV0, fV1, fV2⟩, zV⟩ := HV.out
      obtain ⟨⟨qX0, qX1, qX2⟩, ⟨fX0, fX1, fX2⟩, zX⟩ := HX.out
      go_wp2_with fail
      refine bodyPost_ret (v := .tuple #[.slice (some ⟨w4.heap.size, 0, none⟩) 3 3, .int .i64 0]) (by simp (maxDischargeDepth := 8) [results, Tryd.results14, go_sem, *]) rfl ?_
      have hb := HB.out
      rw [HE.out.1, HE.out.2]
      exact ⟨_, rfl, OwnE.lit3 _ _ _ _ _ hb.size, by (repeat' (first | (with_reducible exact Below.refl _ _) | (with_reducible refine Below.alloc ?_ ?_ _) | (with_reducible refine Below.setCell ?_ ?_ _) | (with_reducible refine Below.drew ?_) | (with_reducible refine below_drewN ?_ _) | (with_reducible assumption) | (with_reducible refine below_after (by with_reducible assumption) ?_) | go_size))⟩
set_option maxHeartbeats 800000 in
theorem spec_DeterminantOfSpots_any (a0 a1 a2 b0 b1 b2 c0 c1 c2 : Int) (w : World) :
    Calls Tryd.prog 20 #[.agg #[.int .i64 a0, .int .i64 a1, .int .i64 a2], .agg #[.int .i64 b0, .int .i64 b1, .int .i64 b2], .agg #[.int .i64 c0, .int .i64 c1, .int .i64 c2]] w fun e w' => e = .returned (.tuple #[.int .i64 (dsV a0 a1 a2 b0 b1 b2 c0 c1 c2), .int .i64 (dsK a0 a1 a2 b0 b1 b2 c0 c1 c2)]) ∧ Below w.heap.size w w' := by
  cases k0 : isSp a0 a1 a2
  · skip
    have HK0 := Lib.hid k0
    have HS0 : Hid (∀ w, Calls Tryd.prog 45 #[.agg #[.int .i64 a0, .int .i64 a1, .int .i64 a2]] w fun e w' => e = .returned (.bool false) ∧ Below w.heap.size w w') := fun w => by have := l08Spot_any a0 a1 a2 w; rwa [k0] at this
    clear k0
    obtain ⟨GA, hG⟩ : ∃ G, w.heap.size = G := ⟨_, rfl⟩
    have HG := Lib.hid hG
    go_enter Tryd.func20, Tryd.ntmps20
    go_upto_region 1 with fail
    obtain ⟨w0, hw0⟩ : ∃ w0, w0 = (((w.alloc (.cells #[.int .i64 a0, .int .i64 a1, .int .i64 a2] 26)).alloc (.cells #[.int .i64 b0, .int .i64 b1, .int .i64 b2] 26)).alloc (.cells #[.int .i64 c0, .int .i64 c1, .int .i64 c2] 26)) := ⟨_, rfl⟩
    rw [← hw0]
    have HA : Hid (Bk3 w0 GA a0 a1 a2) := by
      have h := (bk3_new w a0 a1 a2 26).below (W' := (((w.alloc (.cells #[.int .i64 a0, .int .i64 a1, .int .i64 a2] 26)).alloc (.cells #[.int .i64 b0, .int .i64 b1, .int .i64 b2] 26)).alloc (.cells #[.int .i64 c0, .int .i64 c1, .int .i64 c2] 26))) (by (repeat' (first | (with_reducible exact Below.refl _ _) | (with_reducible refine Below.alloc ?_ ?_ _) | (with_reducible refine Below.setCell ?_ ?_ _) | (with_reducible refine Below.drew ?_) | (with_reducible refine below_drewN ?_ _) | (with_reducible assumption) | (with_reducible refine below_after (by with_reducible assumption) ?_) | go_size)))
      (try simp only [World.size_alloc] at h)
      rw [hG] at h
      rw [hw0]; exact h
    have HV : Hid (Bk3 w0 (GA + 1) b0 b1 b2) := by
      have h := (bk3_new (w.alloc (.cells #[.int .i64 a0, .int .i64 a1, .int .i64 a2] 26)) b0 b1 b2 26).below (W' := (((w.alloc (.cells #[.int .i64 a0, .int .i64 a1, .int .i64 a2] 26)).alloc (.cells #[.int .i64 b0, .int .i64 b1, .int .i64 b2] 26)).alloc (.cells #[.int .i64 c0, .int .i64 c1, .int .i64 c2] 26))) (by (repeat' (first | (with_reducible exact Below.refl _ _) | (with_reducible refine Below.alloc ?_ ?_ _) | (with_reducible refine Below.setCell ?_ ?_ _) | (with_reducible refine Below.drew ?_) | (with_reducible refine below_drewN ?_ _) | (with_reducible assumption) | (with_reducible refine below_after (by with_reducible assumption) ?_) | go_size)))
      (try simp only [World.size_alloc] at h)
      rw [hG] at h
      rw [hw0]; exact h
    have HC : Hid (Bk3 w0 (GA + 1 + 1) c0 c1 c2) := by
      have h := (bk3_new ((w.alloc (.cells #[.int .i64 a0, .int .i64 a1, .int .i64 a2] 26)).alloc (.cells #[.int .i64 b0, .int .i64 b1, .int .i64 b2] 26)) c0 c1 c2 26).below (W' := (((w.alloc (.cells #[.int .i64 a0, .int .i64 a1, .int .i64 a2] 26)).alloc (.cells #[.int .i64 b0, .int .i64 b1, .int .i64 b2] 26)).alloc (.cells #[.int .i64 c0, .int .i64 c1, .int .i64 c2] 26))) (by (repeat' (first | (with_reducible exact Below.refl _ _) | (with_reducible refine Below.alloc ?_ ?_ _) | (with_reducible refine Below.setCell ?_ ?_ _) | (with_reducible refine Below.drew ?_) | (with_reducible refine below_drewN ?_ _) | (with_reducible assumption) | (with_reducible refine below_after (by with_reducible assumption) ?_) | go_size)))
      (try simp only [World.size_alloc] at h)
      rw [hG] at h
      rw [hw0]; exact h
    have HB : Hid (Below w.heap.size w w0) := by show Below w.heap.size w w0; rw [hw0]; (repeat' (first | (with_reducible exact Below.refl _ _) | (with_reducible refine Below.alloc ?_ ?_ _) | (with_reducible refine Below.setCell ?_ ?_ _) | (with_reducible refine Below.drew ?_) | (with_reducible refine below_drewN ?_ _) | (with_reducible assumption) | (with_reducible refine below_after (by with_reducible assumption) ?_) | go_size))
    clear hw0
    obtain ⟨GC, hGC⟩ : ∃ g, GA + 1 + 1 = g := ⟨_, rfl⟩
    rw [hGC] at HC ⊢
    obtain ⟨GV, hGV⟩ : ∃ g, GA + 1 = g := ⟨_, rfl⟩
    rw [hGV] at HV ⊢
    have le_A : w.heap.size ≤ GA := by omega
    have le_V : w.heap.size ≤ GV := by omega
    have ne_V_A : GV ≠ GA := by omega
    have ne_A_V : GA ≠ GV := by omega
    have le_C : w.heap.size ≤ GC := by omega
    have ne_C_A : GC ≠ GA := by omega
    have ne_A_C : GA ≠ GC := by omega
    have ne_C_V : GC ≠ GV := by omega
    have ne_V_C : GV ≠ GC := by omega
    clear hGV hGC
    obtain ⟨⟨qA0, qA1, qA2⟩, ⟨fA0, fA1, fA2⟩, zA⟩ := HA.out
    obtain ⟨⟨qV0, qV1, qV2⟩, ⟨fV0, fV1, fV2⟩, zV⟩ := HV.out
    obtain ⟨⟨qC0, qC1, qC2⟩, ⟨fC0, fC1, fC2⟩, zC⟩ := HC.out
    go_wp2_with fail
    go_at_call 45
    refine (HS0.out _).mono ?_
    rintro e w1 ⟨rfl, hb⟩
    clear qA0 fA0 qA1 fA1 qA2 fA2 zA qV0 fV0 qV1 fV1 qV2 fV2 zV qC0 fC0 qC1 fC1 qC2 fC2 zC
    have HA := Lib.hid (HA.out.below hb)
    have HV := Lib.hid (HV.out.below hb)
    have HC := Lib.hid (HC.out.below hb)
    have HB := Lib.hid (below_after hb HB.out)
    clear hb
    obtain ⟨⟨qA0, qA1, qA2⟩, ⟨fA0, fA1, fA2⟩, zA⟩ := HA.out
    obtain ⟨⟨qV0, qV1, qV2⟩, ⟨fV0, fV1, fV2⟩, zV⟩ := HV.out
    obtain ⟨⟨qC0, qC1, qC2⟩, ⟨fC0, fC1, fC2⟩, zC⟩ := HC.out
    go_wp2_with fail
    refine bodyPost_ret (v := .tuple #[.int .i64 0, .int .i64 1]) (by simp (maxDischargeDepth := 8) [results, Tryd.results20, go_sem, *]) rfl ?_
    have hb := HB.out
    exact ⟨by simp [dsV, dsK, bvl, bok, HK0.out], by (repeat' (first | (with_reducible exact Below.refl _ _) | (with_reducible refine Below.alloc ?_ ?_ _) | (with_reducible refine Below.setCell ?_ ?_ _) | (with_reducible refine Below.drew ?_) | (with_reducible refine below_drewN ?_ _) | (with_reducible assumption) | (with_reducible refine below_after (by with_reducible assumption) ?_) | go_size))⟩
  · skip
    have HK0 := Lib.hid k0
    have HS0 : Hid (∀ w, Calls Tryd.prog 45 #[.agg #[.int .i64 a0, .int .i64 a1, .int .i64 a2]] w fun e w' => e = .returned (.bool true) ∧ Below w.heap.size w w') := fun w => by have := l08Spot_any a0 a1 a2 w; rwa [k0] at this
    clear k0
    cases k1 : isSp b0 b1 b2
    · skip
      have HK1 := Lib.hid k1
      have HS1 : Hid (∀ w, Calls Tryd.prog 45 #[.agg #[.int .i64 b0, .int .i64 b1, .int .i64 b2]] w fun e w' => e = .returned (.bool false) ∧ Below w.heap.size w w') := fun w => by have := l08Spot_any b0 b1 b2 w; rwa [k1] at this
      clear k1
      obtain ⟨GA, hG⟩ : ∃ G, w.heap.size = G := ⟨_, rfl⟩
      have HG := Lib.hid hG
      go_enter Tryd.func20, Tryd.ntmps20
      go_upto_region 1 with fail
      obtain ⟨w0, hw0⟩ : ∃ w0, w0 = (((w.alloc (.cells #[.int .i64 a0, .int .i64 a1, .int .i64 a2] 26)).alloc (.cells #[.int .i64 b0, .int .i64 b1, .int .i64 b2] 26)).alloc (.cells #[.int .i64 c0, .int .i64 c1, .int .i64 c2] 26)) := ⟨_, rfl⟩
      rw [← hw0]
      have HA : Hid (Bk3 w0 GA a0 a1 a2) := by
        have h := (bk3_new w a0 a1 a2 26).below (W' := (((w.alloc (.cells #[.int .i64 a0, .int .i64 a1, .int .i64 a2] 26)).alloc (.cells #[.int .i64 b0, .int .i64 b1, .int .i64 b2] 26)).alloc (.cells #[.int .i64 c0, .int .i64 c1, .int .i64 c2] 26))) (by (repeat' (first | (with_reducible exact Below.refl _ _) | (with_reducible refine Below.alloc ?_ ?_ _) | (with_reducible refine Below.setCell ?_ ?_ _) | (with_reducible refine Below.drew ?_) | (with_reducible refine below_drewN ?_ _) | (with_reducible assumption) | (with_reducible refine below_after (by with_reducible assumption) ?_) | go_size)))
        (try simp only [World.size_alloc] at h)
        rw [hG] at h
        rw [hw0]; exact h
      have HV : Hid (Bk3 w0 (GA + 1) b0 b1 b2) := by
        have h := (bk3_new (w.alloc (.cells #[.int .i64 a0, .int .i64 a1, .int .i64 a2] 26)) b0 b1 b2 26).below (W' := (((w.alloc (.cells #[.int .i64 a0, .int .i64 a1, .int .i64 a2] 26)).alloc (.cells #[.int .i64 b0, .int .i64 b1, .int .i64 b2] 26)).alloc (.cells #[.int .i64 c0, .int .i64 c1, .int .i64 c2] 26))) (by (repeat' (first | (with_reducible exact Below.refl _ _) | (with_reducible refine Below.alloc ?_ ?_ _) | (with_reducible refine Below.setCell ?_ ?_ _) | (with_reducible refine Below.drew ?_) | (with_reducible refine below_drewN ?_ _) | (with_reducible assumption) | (with_reducible refine below_after (by with_reducible assumption) ?_) | go_size)))
        (try simp only [World.size_alloc] at h)
        rw [hG] at h
        rw [hw0]; exact h
      have HC : Hid (Bk3 w0 (GA + 1 + 1) c0 c1 c2) := by
        have h := (bk3_new ((w.alloc (.cells #[.int .i64 a0, .int .i64 a1, .int .i64 a2] 26)).alloc (.cells #[.int .i64 b0, .int .i64 b1, .int .i64 b2] 26)) c0 c1 c2 26).below (W' := (((w.alloc (.cells #[.int .i64 a0, .int .i64 a1, .int .i64 a2] 26)).alloc (.cells #[.int .i64 b0, .int .i64 b1, .int .i64 b2] 26)).alloc (.cells #[.int .i64 c0, .int .i64 c1, .int .i64 c2] 26))) (by (repeat' (first | (with_reducible exact Below.refl _ _) | (with_reducible refine Below.alloc ?_ ?_ _) | (with_reducible refine Below.setCell ?_ ?_ _) | (with_reducible refine Below.drew ?_) | (with_reducible refine below_drewN ?_ _) | (with_reducible assumption) | (with_reducible refine below_after (by with_reducible assumption) ?_) | go_size)))
        (try simp only [World.size_alloc] at h)
        rw [hG] at h
        rw [hw0]; exact h
      have HB : Hid (Below w.heap.size w w0) := by show Below w.heap.size w w0; rw [hw0]; (repeat' (first | (with_reducible exact Below.refl _ _) | (with_reducible refine Below.alloc ?_ ?_ _) | (with_reducible refine Below.setCell ?_ ?_ _) | (with_reducible refine Below.drew ?_) | (with_reducible refine below_drewN ?_ _) | (with_reducible assumption) | (with_reducible refine below_after (by with_reducible assumption) ?_) | go_size))
      clear hw0
      obtain ⟨GC, hGC⟩ : ∃ g, GA + 1 + 1 = g := ⟨_, rfl⟩
      rw [hGC] at HC ⊢
      obtain ⟨GV, hGV⟩ : ∃ g, GA + 1 = g := ⟨_, rfl⟩
      rw [hGV] at HV ⊢
      have le_A : w.heap.size ≤ GA := by omega
      have le_V : w.heap.size ≤ GV := by omega
      have ne_V_A : GV ≠ GA := by omega
      have ne_A_V : GA ≠ GV := by omega
      have le_C : w.heap.size ≤ GC := by omega
      have ne_C_A : GC ≠ GA := by omega
      have ne_A_C : GA ≠ GC := by omega
      have ne_C_V : GC ≠ GV := by omega
      have ne_V_C : GV ≠ GC := by omega
      clear hGV hGC
      obtain ⟨⟨qA0, qA1, qA2⟩, ⟨fA0, fA1, fA2⟩, zA⟩ := HA.out
      obtain ⟨⟨qV0, qV1, qV2⟩, ⟨fV0, fV1, fV2⟩, zV⟩ := HV.out
      obtain ⟨⟨qC0, qC1, qC2⟩, ⟨fC0, fC1, fC2⟩, zC⟩ := HC.out
      go_wp2_with fail
      go_at_call 45
      refine (HS0.out _).mono ?_
      rintro e w1 ⟨rfl, hb⟩
      clear qA0 fA0 qA1 fA1 qA2 fA2 zA qV0 fV0 qV1 fV1 qV2 fV2 zV qC0 fC0 qC1 fC1 qC2 fC2 zC
      have HA := Lib.hid (HA.out.below hb)
      have HV := Lib.hid (HV.out.below hb)
      have HC := Lib.hid (HC.out.below hb)
      have HB := Lib.hid (below_after hb HB.out)
      clear hb
      obtain ⟨⟨qA0, qA1, qA2⟩, ⟨fA0, fA1, fA2⟩, zA⟩ := HA.out
      obtain ⟨⟨qV0, qV1, qV2⟩, ⟨fV0, fV1, fV2⟩, zV⟩ := HV.out
      obtain ⟨⟨qC0, qC1, qC2⟩, ⟨fC0, fC1, fC2⟩, zC⟩ := HC.out
      go_wp2_with fail
      go_at_call 45
      refine (HS1.out _).mono ?_
      rintro e w2 ⟨rfl, hb⟩
      clear qA0 fA0 qA1 fA1 qA2 fA2 zA qV0 fV0 qV1 fV1 qV2 fV2 zV qC0 fC0 qC1 fC1 qC2 fC2 zC
      have HA := Lib.hid (HA.out.below hb)
      have HV := Lib.hid (HV.out.below hb)
      have HC := Lib.hid (HC.out.below hb)
      have HB := Lib.hid (below_after hb HB.out)
      clear hb
      obtain ⟨⟨qA0, qA1, qA2⟩, ⟨fA0, fA1, fA2⟩, zA⟩ := HA.out
      obtain ⟨⟨qV0, qV1, qV2⟩, ⟨fV0, fV1, fV2⟩, zV⟩ := HV.out
      obtain ⟨⟨qC0, qC1, qC2⟩, ⟨fC0, fC1, fC2⟩, zC⟩ := HC.out
      go_wp2_with fail
      refine bodyPost_ret (v := .tuple #[.int .i64 0, .int .i64 1]) (by simp (maxDischargeDepth := 8) [results, Tryd.results20, go_sem, *]) rfl ?_
      have hb := HB.out
      exact ⟨by simp [dsV, dsK, bvl, bok, HK0.out, HK1.out], by (repeat' (first | (with_reducible exact Below.refl _ _) | (with_reducible refine Below.alloc ?_ ?_ _) | (with_reducible refine Below.setCell ?_ ?_ _) | (with_reducible refine Below.drew ?_) | (with_reducible refine below_drewN ?_ _) | (with_reducible assumption) | (with_reducible refine below_after (by with_reducible assumption) ?_) | go_size))⟩
    · skip
      have HK1 := Lib.hid k1
      have HS1 : Hid (∀ w, Calls Tryd.prog 45 #[.agg #[.int .i64 b0, .int .i64 b1, .int .i64 b2]] w fun e w' => e = .returned (.bool true) ∧ Below w.heap.size w w') := fun w => by have := l08Spot_any b0 b1 b2 w; rwa [k1] at this
      clear k1
      cases k2 : isSp c0 c1 c2
      · skip
        have HK2 := Lib.hid k2
        have HS2 : Hid (∀ w, Calls Tryd.prog 45 #[.agg #[.int .i64 c0, .int .i64 c1, .int .i64 c2]] w fun e w' => e = .returned (.bool false) ∧ Below w.heap.size w w') := fun w => by have := l08Spot_any c0 c1 c2 w; rwa [k2] at this
        clear k2
        obtain ⟨GA, hG⟩ : ∃ G, w.heap.size = G := ⟨_, rfl⟩
        have HG := Lib.hid hG
        go_enter Tryd.func20, Tryd.ntmps20
        go_upto_region 1 with fail
        obtain ⟨w0, hw0⟩ : ∃ w0, w0 = (((w.alloc (.cells #[.int .i64 a0, .int .i64 a1, .int .i64 a2] 26)).alloc (.cells #[.int .i64 b0, .int .i64 b1, .int .i64 b2] 26)).alloc (.cells #[.int .i64 c0, .int .i64 c1, .int .i64 c2] 26)) := ⟨_, rfl⟩
        rw [← hw0]
        have HA : Hid (Bk3 w0 GA a0 a1 a2) := by
          have h := (bk3_new w a0 a1 a2 26).below (W' := (((w.alloc (.cells #[.int .i64 a0, .int .i64 a1, .int .i64 a2] 26)).alloc (.cells #[.int .i64 b0, .int .i64 b1, .int .i64 b2] 26)).alloc (.cells #[.int .i64 c0, .int .i64 c1, .int .i64 c2] 26))) (by (repeat' (first | (with_reducible exact Below.refl _ _) | (with_reducible refine Below.alloc ?_ ?_ _) | (with_reducible refine Below.setCell ?_ ?_ _) | (with_reducible refine Below.drew ?_) | (with_reducible refine below_drewN ?_ _) | (with_reducible assumption) | (with_reducible refine below_after (by with_reducible assumption) ?_) | go_size)))
          (try simp only [World.size_alloc] at h)
          rw [hG] at h
          rw [hw0]; exact h
        have HV : Hid (Bk3 w0 (GA + 1) b0 b1 b2) := by
          have h := (bk3_new (w.alloc (.cells #[.int .i64 a0, .int .i64 a1, .int .i64 a2] 26)) b0 b1 b2 26).below (W' := (((w.alloc (.cells #[.int .i64 a0, .int .i64 a1, .int .i64 a2] 26)).alloc (.cells #[.int .i64 b0, .int .i64 b1, .int .i64 b2] 26)).alloc (.cells #[.int .i64 c0, .int .i64 c1, .int .i64 c2] 26))) (by (repeat' (first | (with_reducible exact Below.refl _ _) | (with_reducible refine Below.alloc ?_ ?_ _) | (with_reducible refine Below.setCell ?_ ?_ _) | (with_reducible refine Below.drew ?_) | (with_reducible refine below_drewN ?_ _) | (with_reducible assumption) | (with_reducible refine below_after (by with_reducible assumption) ?_) | go_size)))
          (try simp only [World.size_alloc] at h)
          rw [hG] at h
          rw [hw0]; exact h
        have HC : Hid (Bk3 w0 (GA + 1 + 1) c0 c1 c2) := by
          have h := (bk3_new ((w.alloc (.cells #[.int .i64 a0, .int .i64 a1, .int .i64 a2] 26)).alloc (.cells #[.int .i64 b0, .int .i64 b1, .int .i64 b2] 26)) c0 c1 c2 26).below (W' := (((w.alloc (.cells #[.int .i64 a0, .int .i64 a1, .int .i64 a2] 26)).alloc (.cells #[.int .i64 b0, .int .i64 b1, .int .i64 b2] 26)).alloc (.cells #[.int .i64 c0, .int .i64 c1, .int .i64 c2] 26))) (by (repeat' (first | (with_reducible exact Below.refl _ _) | (with_reducible refine Below.alloc ?_ ?_ _) | (with_reducible refine Below.setCell ?_ ?_ _) | (with_reducible refine Below.drew ?_) | (with_reducible refine below_drewN ?_ _) | (with_reducible assumption) | (with_reducible refine below_after (by with_reducible assumption) ?_) | go_size)))
          (try simp only [World.size_alloc] at h)
          rw [hG] at h
          rw [hw0]; exact h
        have HB : Hid (Below w.heap.size w w0) := by show Below w.heap.size w w0; rw [hw0]; (repeat' (first | (with_reducible exact Below.refl _ _) | (with_reducible refine Below.alloc ?_ ?_ _) | (with_reducible refine Below.setCell ?_ ?_ _) | (with_reducible refine Below.drew ?_) | (with_reducible refine below_drewN ?_ _) | (with_reducible assumption) | (with_reducible refine below_after (by with_reducible assumption) ?_) | go_size))
        clear hw0
        obtain ⟨GC, hGC⟩ : ∃ g, GA + 1 + 1 = g := ⟨_, rfl⟩
        rw [hGC] at HC ⊢
        obtain ⟨GV, hGV⟩ : ∃ g, GA + 1 = g := ⟨_, rfl⟩
        rw [hGV] at HV ⊢
        have le_A : w.heap.size ≤ GA := by omega
        have le_V : w.heap.size ≤ GV := by omega
        have ne_V_A : GV ≠ GA := by omega
        have ne_A_V : GA ≠ GV := by omega
        have le_C : w.heap.size ≤ GC := by omega
        have ne_C_A : GC ≠ GA := by omega
        have ne_A_C : GA ≠ GC := by omega
        have ne_C_V : GC ≠ GV := by omega
        have ne_V_C : GV ≠ GC := by omega
        clear hGV hGC
        obtain ⟨⟨qA0, qA1, qA2⟩, ⟨fA0, fA1, fA2⟩, zA⟩ := HA.out
        obtain ⟨⟨qV0, qV1, qV2⟩, ⟨fV0, fV1, fV2⟩, zV⟩ := HV.out
        obtain ⟨⟨qC0, qC1, qC2⟩, ⟨fC0, fC1, fC2⟩, zC⟩ := HC.out
        go_wp2_with fail
        go_at_call 45
        refine (HS0.out _).mono ?_
        rintro e w1 ⟨rfl, hb⟩
        clear qA0 fA0 qA1 fA1 qA2 fA2 zA qV0 fV0 qV1 fV1 qV2 fV2 zV qC0 fC0 qC1 fC1 qC2 fC2 zC
        have HA := Lib.hid (HA.out.below hb)
        have HV := Lib.hid (HV.out.below hb)
        have HC := Lib.hid (HC.out.below hb)
        have HB := Lib.hid (below_after hb HB.out)
        clear hb
        obtain ⟨⟨qA0, qA1, qA2⟩, ⟨fA0, fA1, fA2⟩, zA⟩ := HA.out
        obtain ⟨⟨qV0, qV1, qV2⟩, ⟨fV0, fV1, fV2⟩, zV⟩ := HV.out
        obtain ⟨⟨qC0, qC1, qC2⟩, ⟨fC0, fC1, fC2⟩, zC⟩ := HC.out
        go_wp2_with fail
        go_at_call 45
        refine (HS1.out _).mono ?_
        rintro e w2 ⟨rfl, hb⟩
        clear qA0 fA0 qA1 fA1 qA2 fA2 zA qV0 fV0 qV1 fV1 qV2 fV2 zV qC0 fC0 qC1 fC1 qC2 fC2 zC
        have HA := Lib.hid (HA.out.below hb)
        have HV := Lib.hid (HV.out.below hb)
        have HC := Lib.hid (HC.out.below hb)
        have HB := Lib.hid (below_after hb HB.out)
        clear hb
        obtain ⟨⟨qA0, qA1, qA2⟩, ⟨fA0, fA1, fA2⟩, zA⟩ := HA.out
        obtain ⟨⟨qV0, qV1, qV2⟩, ⟨fV0, fV1, fV2⟩, zV⟩ := HV.out
        obtain ⟨⟨qC0, qC1, qC2⟩, ⟨fC0, fC1, fC2⟩, zC⟩ := HC.out
        go_wp2_with fail
        go_at_call 45
        refine (HS2.out _).mono ?_
        rintro e w3 ⟨rfl, hb⟩
        clear qA0 fA0 qA1 fA1 qA2 fA2 zA qV0 fV0 qV1 fV1 qV2 fV2 zV qC0 fC0 qC1 fC1 qC2 fC2 zC
        have HA := Lib.hid (HA.out.below hb)
        have HV := Lib.hid (HV.out.below hb)
        have HC := Lib.hid (HC.out.below hb)
        have HB := Lib.hid (below_after hb HB.out)
        clear hb
        obtain ⟨⟨qA0, qA1, qA2⟩, ⟨fA0, fA1, fA2⟩, zA⟩ := HA.out
        obtain ⟨⟨qV0, qV1, qV2⟩, ⟨fV0, fV1, fV2⟩, zV⟩ := HV.out
        obtain ⟨⟨qC0, qC1, qC2⟩, ⟨fC0, fC1, fC2⟩, zC⟩ := HC.out
        go_wp2_with fail
        refine bodyPost_ret (v := .tuple #[.int .i64 0, .int .i64 1]) (by simp (maxDischargeDepth := 8) [results, Tryd.results20, go_sem, *]) rfl ?_
        have hb := HB.out
        exact ⟨by simp [dsV, dsK, bvl, bok, HK0.out, HK1.out, HK2.out], by (repeat' (first | (with_reducible exact Below.refl _ _) | (with_reducible refine Below.alloc ?_ ?_ _) | (with_reducible refine Below.setCell ?_ ?_ _) | (with_reducible refine Below.drew ?_) | (with_reducible refine below_drewN ?_ _) | (with_reducible assumption) | (with_reducible refine below_after (by with_reducible assumption) ?_) | go_size))⟩
      · skip
        have HK2 := Lib.hid k2
        have HS2 : Hid (∀ w, Calls Tryd.prog 45 #[.agg #[.int .i64 c0, .int .i64 c1, .int .i64 c2]] w fun e w' => e = .returned (.bool true) ∧ Below w.heap.size w w') := fun w => by have := l08Spot_any c0 c1 c2 w; rwa [k2] at this
        clear k2
        obtain ⟨GA, hG⟩ : ∃ G, w.heap.size = G := ⟨_, rfl⟩
        have HG := Lib.hid hG
        go_enter Tryd.func20, Tryd.ntmps20
        go_upto_region 1 with fail
        obtain ⟨w0, hw0⟩ : ∃ w0, w0 = (((w.alloc (.cells #[.int .i64 a0, .int .i64 a1, .int .i64 a2] 26)).alloc (.cells #[.int .i64 b0, .int .i64 b1, .int .i64 b2] 26)).alloc (.cells #[.int .i64 c0, .int .i64 c1, .int .i64 c2] 26)) := ⟨_, rfl⟩
        rw [← hw0]
        have HA : Hid (Bk3 w0 GA a0 a1 a2) := by
          have h := (bk3_new w a0 a1 a2 26).below (W' := (((w.alloc (.cells #[.int .i64 a0, .int .i64 a1, .int .i64 a2] 26)).alloc (.cells #[.int .i64 b0, .int .i64 b1, .int .i64 b2] 26)).alloc (.cells #[.int .i64 c0, .int .i64 c1, .int .i64 c2] 26))) (by (repeat' (first | (with_reducible exact Below.refl _ _) | (with_reducible refine Below.alloc ?_ ?_ _) | (with_reducible refine Below.setCell ?_ ?_ _) | (with_reducible refine Below.drew ?_) | (with_reducible refine below_drewN ?_ _) | (with_reducible assumption) | (with_reducible refine below_after (by with_reducible assumption) ?_) | go_size)))
          (try simp only [World.size_alloc] at h)
          rw [hG] at h
          rw [hw0]; exact h
        have HV : Hid (Bk3 w0 (GA + 1) b0 b1 b2) := by
          have h := (bk3_new (w.alloc (.cells #[.int .i64 a0, .int .i64 a1, .int .i64 a2] 26)) b0 b1 b2 26).below (W' := (((w.alloc (.cells #[.int .i64 a0, .int .i64 a1, .int .i64 a2] 26)).alloc (.cells #[.int .i64 b0, .int .i64 b1, .int .i64 b2] 26)).alloc (.cells #[.int .i64 c0, .int .i64 c1, .int .i64 c2] 26))) (by (repeat' (first | (with_reducible exact Below.refl _ _) | (with_reducible refine Below.alloc ?_ ?_ _) | (with_reducible refine Below.setCell ?_ ?_ _) | (with_reducible refine Below.drew ?_) | (with_reducible refine below_drewN ?_ _) | (with_reducible assumption) | (with_reducible refine below_after (by with_reducible assumption) ?_) | go_size)))
          (try simp only [World.size_alloc] at h)
          rw [hG] at h
          rw [hw0]; exact h
        have HC : Hid (Bk3 w0 (GA + 1 + 1) c0 c1 c2) := by
          have h := (bk3_new ((w.alloc (.cells #[.int .i64 a0, .int .i64 a1, .int .i64 a2] 26)).alloc (.cells #[.int .i64 b0, .int .i64 b1, .int .i64 b2] 26)) c0 c1 c2 26).below (W' := (((w.alloc (.cells #[.int .i64 a0, .int .i64 a1, .int .i64 a2] 26)).alloc (.cells #[.int .i64 b0, .int .i64 b1, .int .i64 b2] 26)).alloc (.cells #[.int .i64 c0, .int .i64 c1, .int .i64 c2] 26))) (by (repeat' (first | (with_reducible exact Below.refl _ _) | (with_reducible refine Below.alloc ?_ ?_ _) | (with_reducible refine Below.setCell ?_ ?_ _) | (with_reducible refine Below.drew ?_) | (with_reducible refine below_drewN ?_ _) | (with_reducible assumption) | (with_reducible refine below_after (by with_reducible assumption) ?_) | go_size)))
          (try simp only [World.size_alloc] at h)
          rw [hG] at h
          rw [hw0]; exact h
        have HB : Hid (Below w.heap.size w w0) := by show Below w.heap.size w w0; rw [hw0]; (repeat' (first | (with_reducible exact Below.refl _ _) | (with_reducible refine Below.alloc ?_ ?_ _) | (with_reducible refine Below.setCell ?_ ?_ _) | (with_reducible refine Below.drew ?_) | (with_reducible refine below_drewN ?_ _) | (with_reducible assumption) | (with_reducible refine below_after (by with_reducible assumption) ?_) | go_size))
        clear hw0
        obtain ⟨GC, hGC⟩ : ∃ g, GA + 1 + 1 = g := ⟨_, rfl⟩
        rw [hGC] at HC ⊢
        obtain ⟨GV, hGV⟩ : ∃ g, GA + 1 = g := ⟨_, rfl⟩
        rw [hGV] at HV ⊢
        have le_A : w.heap.size ≤ GA := by omega
        have le_V : w.heap.size ≤ GV := by omega
        have ne_V_A : GV ≠ GA := by omega
        have ne_A_V : GA ≠ GV := by omega
        have le_C : w.heap.size ≤ GC := by omega
        have ne_C_A : GC ≠ GA := by omega
        have ne_A_C : GA ≠ GC := by omega
        have ne_C_V : GC ≠ GV := by omega
        have ne_V_C : GV ≠ GC := by omega
        clear hGV hGC
        obtain ⟨⟨qA0, qA1, qA2⟩, ⟨fA0, fA1, fA2⟩, zA⟩ := HA.out
        obtain ⟨⟨qV0, qV1, qV2⟩, ⟨fV0, fV1, fV2⟩, zV⟩ := HV.out
        obtain ⟨⟨qC0, qC1, qC2⟩, ⟨fC0, fC1, fC2⟩, zC⟩ := HC.out
        go_wp2_with fail
        go_at_call 45
        refine (HS0.out _).mono ?_
        rintro e w1 ⟨rfl, hb⟩
        clear qA0 fA0 qA1 fA1 qA2 fA2 zA qV0 fV0 qV1 fV1 qV2 fV2 zV qC0 fC0 qC1 fC1 qC2 fC2 zC
        have HA := Lib.hid (HA.out.below hb)
        have HV := Lib.hid (HV.out.below hb)
        have HC := Lib.hid (HC.out.below hb)
        have HB := Lib.hid (below_after hb HB.out)
        clear hb
        obtain ⟨⟨qA0, qA1, qA2⟩, ⟨fA0, fA1, fA2⟩, zA⟩ := HA.out
        obtain ⟨⟨qV0, qV1, qV2⟩, ⟨fV0, fV1, fV2⟩, zV⟩ := HV.out
        obtain ⟨⟨qC0, qC1, qC2⟩, ⟨fC0, fC1, fC2⟩, zC⟩ := HC.out
        go_wp2_with fail
        go_at_call 45
        refine (HS1.out _).mono ?_
        rintro e w2 ⟨rfl, hb⟩
        clear qA0 fA0 qA1 fA1 qA2 fA2 zA qV0 fV0 qV1 fV1 qV2 fV2 zV qC0 fC0 qC1 fC1 qC2 fC2 zC
        have HA := Lib.hid (HA.out.below hb)
        have HV := Lib.hid (HV.out.below hb)
        have HC := Lib.hid (HC.out.below hb)
        have HB := Lib.hid (below_after hb HB.out)
        clear hb
        obtain ⟨⟨qA0, qA1, qA2⟩, ⟨fA0, fA1, fA2⟩, zA⟩ := HA.out
        obtain ⟨⟨qV0, qV1, qV2⟩, ⟨fV0, fV1, fV2⟩, zV⟩ := HV.out
        obtain ⟨⟨qC0, qC1, qC2⟩, ⟨fC0, fC1, fC2⟩, zC⟩ := HC.out
        go_wp2_with fail
        go_at_call 45
        refine (HS2.out _).mono ?_
        rintro e w3 ⟨rfl, hb⟩
        clear qA0 fA0 qA1 fA1 qA2 fA2 zA qV0 fV0 qV1 fV1 qV2 fV2 zV qC0 fC0 qC1 fC1 qC2 fC2 zC
        have HA := Lib.hid (HA.out.below hb)
        have HV := Lib.hid (HV.out.below hb)
        have HC := Lib.hid (HC.out.below hb)
        have HB := Lib.hid (below_after hb HB.out)
        clear hb
        obtain ⟨⟨qA0, qA1, qA2⟩, ⟨fA0, fA1, fA2⟩, zA⟩ := HA.out
        obtain ⟨⟨qV0, qV1, qV2⟩, ⟨fV0, fV1, fV2⟩, zV⟩ := HV.out
        obtain ⟨⟨qC0, qC1, qC2⟩, ⟨fC0, fC1, fC2⟩, zC⟩ := HC.out
        go_wp2_with fail
        go_at_call 51
        refine (l08Det_any _ _ _ _ _ _ _ _ _ _ ((isSp_W3 HK0.out).up (by omega)) ((isSp_W3 HK1.out).up (by omega)) ((isSp_W3 HK2.out).up (by omega))).mono ?_
        rintro e w4 ⟨rfl, hb⟩
        clear qA0 fA0 qA1 fA1 qA2 fA2 zA qV0 fV0 qV1 fV1 qV2 fV2 zV qC0 fC0 qC1 fC1 qC2 fC2 zC
        have HA := Lib.hid (HA.out.below hb)
        have HV := Lib.hid (HV.out.below hb)
        have HC := Lib.hid (HC.out.below hb)
        have HB := Lib.hid (below_after hb HB.out)
        clear hb
        obtain ⟨⟨qA0, qA1, qA2⟩, ⟨fA0, fA1, fA2⟩, zA⟩ := HA.out
        obtain ⟨⟨qV0, qV1, qV2⟩, ⟨fV0, fV1, fV2⟩, zV⟩ := HV.out
        obtain ⟨⟨qC0, qC1, qC2⟩, ⟨fC0, fC1, fC2⟩, zC⟩ := HC.out
        go_wp2_with fail
        refine bodyPost_ret (v := .tuple #[.int .i64 (detV a0 a1 a2 b0 b1 b2 c0 c1 c2), .int .i64 0]) (by simp (maxDischargeDepth := 8) [results, Tryd.results20, go_sem, *]) rfl ?_
        have hb := HB.out
        exact ⟨by simp [dsV, dsK, bvl, bok, HK0.out, HK1.out, HK2.out], by (repeat' (first | (with_reducible exact Below.refl _ _) | (with_reducible refine Below.alloc ?_ ?_ _) | (with_reducible refine Below.setCell ?_ ?_ _) | (with_reducible refine Below.drew ?_) | (with_reducible refine below_drewN ?_ _) | (with_reducible assumption) | (with_reducible refine below_after (by with_reducible assumption) ?_) | go_size))⟩
set_option maxHeartbeats 800000 in
theorem spec_LengthOfSpot_any (a0 a1 a2 : Int) (w : World) :
    Calls Tryd.prog 22 #[.agg #[.int .i64 a0, .int .i64 a1, .int .i64 a2]] w fun e w' => e = .returned (.tuple #[.int .i64 (leV a0 a1 a2), .int .i64 (leK a0 a1 a2)]) ∧ Below w.heap.size w w' := by
  cases k0 : isSp a0 a1 a2
  · skip
    have HK0 := Lib.hid k0
    have HS0 : Hid (∀ w, Calls Tryd.prog 45 #[.agg #[.int .i64 a0, .int .i64 a1, .int .i64 a2]] w fun e w' => e = .returned (.bool false) ∧ Below w.heap.size w w') := fun w => by have := l08Spot_any a0 a1 a2 w; rwa [k0] at this
    clear k0
    obtain ⟨GA, hG⟩ : ∃ G, w.heap.size = G := ⟨_, rfl⟩
    have HG := Lib.hid hG
    go_enter Tryd.func22, Tryd.ntmps22
    go_upto_region 1 with fail
    obtain ⟨w0, hw0⟩ : ∃ w0, w0 = (w.alloc (.cells #[.int .i64 a0, .int .i64 a1, .int .i64 a2] 26)) := ⟨_, rfl⟩
    rw [← hw0]
    have HA : Hid (Bk3 w0 GA a0 a1 a2) := by
      have h := (bk3_new w a0 a1 a2 26).below (W' := (w.alloc (.cells #[.int .i64 a0, .int .i64 a1, .int .i64 a2] 26))) (by (repeat' (first | (with_reducible exact Below.refl _ _) | (with_reducible refine Below.alloc ?_ ?_ _) | (with_reducible refine Below.setCell ?_ ?_ _) | (with_reducible refine Below.drew ?_) | (with_reducible refine below_drewN ?_ _) | (with_reducible assumption) | (with_reducible refine below_after (by with_reducible assumption) ?_) | go_size)))
      (try simp only [World.size_alloc] at h)
      rw [hG] at h
      rw [hw0]; exact h
    have HB : Hid (Below w.heap.size w w0) := by show Below w.heap.size w w0; rw [hw0]; (repeat' (first | (with_reducible exact Below.refl _ _) | (with_reducible refine Below.alloc ?_ ?_ _) | (with_reducible refine Below.setCell ?_ ?_ _) | (with_reducible refine Below.drew ?_) | (with_reducible refine below_drewN ?_ _) | (with_reducible assumption) | (with_reducible refine below_after (by with_reducible assumption) ?_) | go_size))
    clear hw0
    have le_A : w.heap.size ≤ GA := by omega
    obtain ⟨⟨qA0, qA1, qA2⟩, ⟨fA0, fA1, fA2⟩, zA⟩ := HA.out
    go_wp2_with fail
    go_at_call 45
    refine (HS0.out _).mono ?_
    rintro e w1 ⟨rfl, hb⟩
    clear qA0 fA0 qA1 fA1 qA2 fA2 zA
    have HA := Lib.hid (HA.out.below hb)
    have HB := Lib.hid (below_after hb HB.out)
    clear hb
    obtain ⟨⟨qA0, qA1, qA2⟩, ⟨fA0, fA1, fA2⟩, zA⟩ := HA.out
    go_wp2_with fail
    refine bodyPost_ret (v := .tuple #[.int .i64 0, .int .i64 1]) (by simp (maxDischargeDepth := 8) [results, Tryd.results22, go_sem, *]) rfl ?_
    have hb := HB.out
    exact ⟨by simp [leV, leK, bvl, bok, HK0.out], by (repeat' (first | (with_reducible exact Below.refl _ _) | (with_reducible refine Below.alloc ?_ ?_ _) | (with_reducible refine Below.setCell ?_ ?_ _) | (with_reducible refine Below.drew ?_) | (with_reducible refine below_drewN ?_ _) | (with_reducible assumption) | (with_reducible refine below_after (by with_reducible assumption) ?_) | go_size))⟩
  · skip
    have HK0 := Lib.hid k0
    have HS0 : Hid (∀ w, Calls Tryd.prog 45 #[.agg #[.int .i64 a0, .int .i64 a1, .int .i64 a2]] w fun e w' => e = .returned (.bool true) ∧ Below w.heap.size w w') := fun w => by have := l08Spot_any a0 a1 a2 w; rwa [k0] at this
    clear k0
    obtain ⟨GA, hG⟩ : ∃ G, w.heap.size = G := ⟨_, rfl⟩
    have HG := Lib.hid hG
    go_enter Tryd.func22, Tryd.ntmps22
    go_upto_region 1 with fail
    obtain ⟨w0, hw0⟩ : ∃ w0, w0 = (w.alloc (.cells #[.int .i64 a0, .int .i64 a1, .int .i64 a2] 26)) := ⟨_, rfl⟩
    rw [← hw0]
    have HA : Hid (Bk3 w0 GA a0 a1 a2) := by
      have h := (bk3_new w a0 a1 a2 26).below (W' := (w.alloc (.cells #[.int .i64 a0, .int .i64 a1, .int .i64 a2] 26))) (by (repeat' (first | (with_reducible exact Below.refl _ _) | (with_reducible refine Below.alloc ?_ ?_ _) | (with_reducible refine Below.setCell ?_ ?_ _) | (with_reducible refine Below.drew ?_) | (with_reducible refine below_drewN ?_ _) | (with_reducible assumption) | (with_reducible refine below_after (by with_reducible assumption) ?_) | go_size)))
      (try simp only [World.size_alloc] at h)
      rw [hG] at h
      rw [hw0]; exact h
    have HB : Hid (Below w.heap.size w w0) := by show Below w.heap.size w w0; rw [hw0]; (repeat' (first | (with_reducible exact Below.refl _ _) | (with_reducible refine Below.alloc ?_ ?_ _) | (with_reducible refine Below.setCell ?_ ?_ _) | (with_reducible refine Below.drew ?_) | (with_reducible refine below_drewN ?_ _) | (with_reducible assumption) | (with_reducible refine below_after (by with_reducible assumption) ?_) | go_size))
    clear hw0
    have le_A : w.heap.size ≤ GA := by omega
    obtain ⟨⟨qA0, qA1, qA2⟩, ⟨fA0, fA1, fA2⟩, zA⟩ := HA.out
    go_wp2_with fail
    go_at_call 45
    refine (HS0.out _).mono ?_
    rintro e w1 ⟨rfl, hb⟩
    clear qA0 fA0 qA1 fA1 qA2 fA2 zA
    have HA := Lib.hid (HA.out.below hb)
    have HB := Lib.hid (below_after hb HB.out)
    clear hb
    obtain ⟨⟨qA0, qA1, qA2⟩, ⟨fA0, fA1, fA2⟩, zA⟩ := HA.out
    go_wp2_with fail
    go_at_call 55
    refine (l08Length_any _ _ _ _ ((isSp_W3 HK0.out).up (by omega))).mono ?_
    rintro e w2 ⟨rfl, hb⟩
    clear qA0 fA0 qA1 fA1 qA2 fA2 zA
    have HA := Lib.hid (HA.out.below hb)
    have HB := Lib.hid (below_after hb HB.out)
    clear hb
    obtain ⟨⟨qA0, qA1, qA2⟩, ⟨fA0, fA1, fA2⟩, zA⟩ := HA.out
    go_wp2_with fail
    refine bodyPost_ret (v := .tuple #[.int .i64 (lenV a0 a1 a2), .int .i64 0]) (by simp (maxDischargeDepth := 8) [results, Tryd.results22, go_sem, *]) rfl ?_
    have hb := HB.out
    exact ⟨by simp [leV, leK, bvl, bok, HK0.out], by (repeat' (first | (with_reducible exact Below.refl _ _) | (with_reducible refine Below.alloc ?_ ?_ _) | (with_reducible refine Below.setCell ?_ ?_ _) | (with_reducible refine Below.drew ?_) | (with_reducible refine below_drewN ?_ _) | (with_reducible assumption) | (with_reducible refine below_after (by with_reducible assumption) ?_) | go_size))⟩
set_option maxHeartbeats 800000 in
theorem l08Code_any (c0 c1 c2 c3 c4 c5 c6 c7 c8 a0 a1 a2 : Int) (w : World) :
    Calls Tryd.prog 58 #[.agg #[.int .i64 c0, .int .i64 c1, .int .i64 c2, .int .i64 c3, .int .i64 c4, .int .i64 c5, .int .i64 c6, .int .i64 c7, .int .i64 c8], .agg #[.int .i64 a0, .int .i64 a1, .int .i64 a2]] w fun e w' => e = .returned (.int .i64 (bok (ciO c0 c1 c2 c3 c4 c5 c6 c7 c8 a0 a1 a2))) ∧ Below w.heap.size w w' := by
  cases k0 : isCo c0 c1 c2 c3 c4 c5 c6 c7 c8
  · skip
    have HK0 := Lib.hid k0
    have HS0 : Hid (∀ w, Calls Tryd.prog 68 #[.agg #[.int .i64 c0, .int .i64 c1, .int .i64 c2, .int .i64 c3, .int .i64 c4, .int .i64 c5, .int .i64 c6, .int .i64 c7, .int .i64 c8]] w fun e w' => e = .returned (.bool false) ∧ Below w.heap.size w w') := fun w => by have := l08Is_any c0 c1 c2 c3 c4 c5 c6 c7 c8 w; rwa [k0] at this
    clear k0
    obtain ⟨GC, hG⟩ : ∃ G, w.heap.size = G := ⟨_, rfl⟩
    have HG := Lib.hid hG
    go_enter Tryd.func58, Tryd.ntmps58
    go_upto_region 1 with fail
    obtain ⟨w0, hw0⟩ : ∃ w0, w0 = ((w.alloc (.cells #[.int .i64 c0, .int .i64 c1, .int .i64 c2, .int .i64 c3, .int .i64 c4, .int .i64 c5, .int .i64 c6, .int .i64 c7, .int .i64 c8] 39)).alloc (.cells #[.int .i64 a0, .int .i64 a1, .int .i64 a2] 26)) := ⟨_, rfl⟩
    rw [← hw0]
    have HC : Hid (Bk9 w0 GC c0 c1 c2 c3 c4 c5 c6 c7 c8) := by
      have h := (bk9_new w c0 c1 c2 c3 c4 c5 c6 c7 c8 39).below (W' := ((w.alloc (.cells #[.int .i64 c0, .int .i64 c1, .int .i64 c2, .int .i64 c3, .int .i64 c4, .int .i64 c5, .int .i64 c6, .int .i64 c7, .int .i64 c8] 39)).alloc (.cells #[.int .i64 a0, .int .i64 a1, .int .i64 a2] 26))) (by (repeat' (first | (with_reducible exact Below.refl _ _) | (with_reducible refine Below.alloc ?_ ?_ _) | (with_reducible refine Below.setCell ?_ ?_ _) | (with_reducible refine Below.drew ?_) | (with_reducible refine below_drewN ?_ _) | (with_reducible assumption) | (with_reducible refine below_after (by with_reducible assumption) ?_) | go_size)))
      (try simp only [World.size_alloc] at h)
      rw [hG] at h
      rw [hw0]; exact h
    have HA : Hid (Bk3 w0 (GC + 1) a0 a1 a2) := by
      have h := (bk3_new (w.alloc (.cells #[.int .i64 c0, .int .i64 c1, .int .i64 c2, .int .i64 c3, .int .i64 c4, .int .i64 c5, .int .i64 c6, .int .i64 c7, .int .i64 c8] 39)) a0 a1 a2 26).below (W' := ((w.alloc (.cells #[.int .i64 c0, .int .i64 c1, .int .i64 c2, .int .i64 c3, .int .i64 c4, .int .i64 c5, .int .i64 c6, .int .i64 c7, .int .i64 c8] 39)).alloc (.cells #[.int .i64 a0, .int .i64 a1, .int .i64 a2] 26))) (by (repeat' (first | (with_reducible exact Below.refl _ _) | (with_reducible refine Below.alloc ?_ ?_ _) | (with_reducible refine Below.setCell ?_ ?_ _) | (with_reducible refine Below.drew ?_) | (with_reducible refine below_drewN ?_ _) | (with_reducible assumption) | (with_reducible refine below_after (by with_reducible assumption) ?_) | go_size)))
      (try simp only [World.size_alloc] at h)
      rw [hG] at h
      rw [hw0]; exact h
    have HB : Hid (Below w.heap.size w w0) := by show Below w.heap.size w w0; rw [hw0]; (repeat' (first | (with_reducible exact Below.refl _ _) | (with_reducible refine Below.alloc ?_ ?_ _) | (with_reducible refine Below.setCell ?_ ?_ _) | (with_reducible refine Below.drew ?_) | (with_reducible refine below_drewN ?_ _) | (with_reducible assumption) | (with_reducible refine below_after (by with_reducible assumption) ?_) | go_size))
    clear hw0
    obtain ⟨GA, hGA⟩ : ∃ g, GC + 1 = g := ⟨_, rfl⟩
    rw [hGA] at HA ⊢
    have le_C : w.heap.size ≤ GC := by omega
    have le_A : w.heap.size ≤ GA := by omega
    have ne_A_C : GA ≠ GC := by omega
    have ne_C_A : GC ≠ GA := by omega
    clear hGA
    obtain ⟨⟨qC0, qC1, qC2, qC3, qC4, qC5, qC6, qC7, qC8⟩, ⟨fC0, fC1, fC2, fC3, fC4, fC5, fC6, fC7, fC8⟩, zC⟩ := HC.out
    obtain ⟨⟨qA0, qA1, qA2⟩, ⟨fA0, fA1, fA2⟩, zA⟩ := HA.out
    go_wp2_with fail
    go_at_call 68
    refine (HS0.out _).mono ?_
    rintro e w1 ⟨rfl, hb⟩
    clear qC0 fC0 qC1 fC1 qC2 fC2 qC3 fC3 qC4 fC4 qC5 fC5 qC6 fC6 qC7 fC7 qC8 fC8 zC qA0 fA0 qA1 fA1 qA2 fA2 zA
    have HC := Lib.hid (HC.out.below hb)
    have HA := Lib.hid (HA.out.below hb)
    have HB := Lib.hid (below_after hb HB.out)
    clear hb
    obtain ⟨⟨qC0, qC1, qC2, qC3, qC4, qC5, qC6, qC7, qC8⟩, ⟨fC0, fC1, fC2, fC3, fC4, fC5, fC6, fC7, fC8⟩, zC⟩ := HC.out
    obtain ⟨⟨qA0, qA1, qA2⟩, ⟨fA0, fA1, fA2⟩, zA⟩ := HA.out
    go_wp2_with fail
    refine bodyPost_ret (v := .int .i64 1) (by simp (maxDischargeDepth := 8) [results, Tryd.results58, go_sem, *]) rfl ?_
    have hb := HB.out
    exact ⟨by simp [ciO, bok, HK0.out], by (repeat' (first | (with_reducible exact Below.refl _ _) | (with_reducible refine Below.alloc ?_ ?_ _) | (with_reducible refine Below.setCell ?_ ?_ _) | (with_reducible refine Below.drew ?_) | (with_reducible refine below_drewN ?_ _) | (with_reducible assumption) | (with_reducible refine below_after (by with_reducible assumption) ?_) | go_size))⟩
  · skip
    have HK0 := Lib.hid k0
    have HS0 : Hid (∀ w, Calls Tryd.prog 68 #[.agg #[.int .i64 c0, .int .i64 c1, .int .i64 c2, .int .i64 c3, .int .i64 c4, .int .i64 c5, .int .i64 c6, .int .i64 c7, .int .i64 c8]] w fun e w' => e = .returned (.bool true) ∧ Below w.heap.size w w') := fun w => by have := l08Is_any c0 c1 c2 c3 c4 c5 c6 c7 c8 w; rwa [k0] at this
    clear k0
    cases k1 : isSp a0 a1 a2
    · skip
      have HK1 := Lib.hid k1
      have HS1 : Hid (∀ w, Calls Tryd.prog 45 #[.agg #[.int .i64 a0, .int .i64 a1, .int .i64 a2]] w fun e w' => e = .returned (.bool false) ∧ Below w.heap.size w w') := fun w => by have := l08Spot_any a0 a1 a2 w; rwa [k1] at this
      clear k1
      obtain ⟨GC, hG⟩ : ∃ G, w.heap.size = G := ⟨_, rfl⟩
      have HG := Lib.hid hG
      go_enter Tryd.func58, Tryd.ntmps58
      go_upto_region 1 with fail
      obtain ⟨w0, hw0⟩ : ∃ w0, w0 = ((w.alloc (.cells #[.int .i64 c0, .int .i64 c1, .int .i64 c2, .int .i64 c3, .int .i64 c4, .int .i64 c5, .int .i64 c6, .int .i64 c7, .int .i64 c8] 39)).alloc (.cells #[.int .i64 a0, .int .i64 a1, .int .i64 a2] 26)) := ⟨_, rfl⟩
      rw [← hw0]
      have HC : Hid (Bk9 w0 GC c0 c1 c2 c3 c4 c5 c6 c7 c8) := by
        have h := (bk9_new w c0 c1 c2 c3 c4 c5 c6 c7 c8 39).below (W' := ((w.alloc (.cells #[.int .i64 c0, .int .i64 c1, .int .i64 c2, .int .i64 c3, .int .i64 c4, .int .i64 c5, .int .i64 c6, .int .i64 c7, .int .i64 c8] 39)).alloc (.cells #[.int .i64 a0, .int .i64 a1, .int .i64 a2] 26))) (by (repeat' (first | (with_reducible exact Below.refl _ _) | (with_reducible refine Below.alloc ?_ ?_ _) | (with_reducible refine Below.setCell ?_ ?_ _) | (with_reducible refine Below.drew ?_) | (with_reducible refine below_drewN ?_ _) | (with_reducible assumption) | (with_reducible refine below_after (by with_reducible assumption) ?_) | go_size)))
        (try simp only [World.size_alloc] at h)
        rw [hG] at h
        rw [hw0]; exact h
      have HA : Hid (Bk3 w0 (GC + 1) a0 a1 a2) := by
        have h := (bk3_new (w.alloc (.cells #[.int .i64 c0, .int .i64 c1, .int .i64 c2, .int .i64 c3, .int .i64 c4, .int .i64 c5, .int .i64 c6, .int .i64 c7, .int .i64 c8] 39)) a0 a1 a2 26).below (W' := ((w.alloc (.cells #[.int .i64 c0, .int .i64 c1, .int .i64 c2, .int .i64 c3, .int .i64 c4, .int .i64 c5, .int .i64 c6, .int .i64 c7, .int .i64 c8] 39)).alloc (.cells #[.int .i64 a0, .int .i64 a1, .int .i64 a2] 26))) (by (repeat' (first | (with_reducible exact Below.refl _ _) | (with_reducible refine Below.alloc ?_ ?_ _) | (with_reducible refine Below.setCell ?_ ?_ _) | (with_reducible refine Below.drew ?_) | (with_reducible refine below_drewN ?_ _) | (with_reducible assumption) | (with_reducible refine below_after (by with_reducible assumption) ?_) | go_size)))
        (try simp only [World.size_alloc] at h)
        rw [hG] at h
        rw [hw0]; exact h
      have HB : Hid (Below w.heap.size w w0) := by show Below w.heap.size w w0; rw [hw0]; (repeat' (first | (with_reducible exact Below.refl _ _) | (with_reducible refine Below.alloc ?_ ?_ _) | (with_reducible refine Below.setCell ?_ ?_ _) | (with_reducible refine Below.drew ?_) | (with_reducible refine below_drewN ?_ _) | (with_reducible assumption) | (with_reducible refine below_after (by with_reducible assumption) ?_) | go_size))
      clear hw0
      obtain ⟨GA, hGA⟩ : ∃ g, GC + 1 = g := ⟨_, rfl⟩
      rw [hGA] at HA ⊢
      have le_C : w.heap.size ≤ GC := by omega
      have le_A : w.heap.size ≤ GA := by omega
      have ne_A_C : GA ≠ GC := by omega
      have ne_C_A : GC ≠ GA := by omega
      clear hGA
      obtain ⟨⟨qC0, qC1, qC2, qC3, qC4, qC5, qC6, qC7, qC8⟩, ⟨fC0, fC1, fC2, fC3, fC4, fC5, fC6, fC7, fC8⟩, zC⟩ := HC.out
      obtain ⟨⟨qA0, qA1, qA2⟩, ⟨fA0, fA1, fA2⟩, zA⟩ := HA.out
      go_wp2_with fail
      go_at_call 68
      refine (HS0.out _).mono ?_
      rintro e w1 ⟨rfl, hb⟩
      clear qC0 fC0 qC1 fC1 qC2 fC2 qC3 fC3 qC4 fC4 qC5 fC5 qC6 fC6 qC7 fC7 qC8 fC8 zC qA0 fA0 qA1 fA1 qA2 fA2 zA
      have HC := Lib.hid (HC.out.below hb)
      have HA := Lib.hid (HA.out.below hb)
      have HB := Lib.hid (below_after hb HB.out)
      clear hb
      obtain ⟨⟨qC0, qC1, qC2, qC3, qC4, qC5, qC6, qC7, qC8⟩, ⟨fC0, fC1, fC2, fC3, fC4, fC5, fC6, fC7, fC8⟩, zC⟩ := HC.out
      obtain ⟨⟨qA0, qA1, qA2⟩, ⟨fA0, fA1, fA2⟩, zA⟩ := HA.out
      go_wp2_with fail
      go_at_call 45
      refine (HS1.out _).mono ?_
      rintro e w2 ⟨rfl, hb⟩
      clear qC0 fC0 qC1 fC1 qC2 fC2 qC3 fC3 qC4 fC4 qC5 fC5 qC6 fC6 qC7 fC7 qC8 fC8 zC qA0 fA0 qA1 fA1 qA2 fA2 zA
      have HC := Lib.hid (HC.out.below hb)
      have HA := Lib.hid (HA.out.below hb)
      have HB := Lib.hid (below_after hb HB.out)
      clear hb
      obtain ⟨⟨qC0, qC1, qC2, qC3, qC4, qC5, qC6, qC7, qC8⟩, ⟨fC0, fC1, fC2, fC3, fC4, fC5, fC6, fC7, fC8⟩, zC⟩ := HC.out
      obtain ⟨⟨qA0, qA1, qA2⟩, ⟨fA0, fA1, fA2⟩, zA⟩ := HA.out
      go_wp2_with fail
      refine bodyPost_ret (v := .int .i64 1) (by simp (maxDischargeDepth := 8) [results, Tryd.results58, go_sem, *]) rfl ?_
      have hb := HB.out
      exact ⟨by simp [ciO, bok, HK0.out, HK1.out], by (repeat' (first | (with_reducible exact Below.refl _ _) | (with_reducible refine Below.alloc ?_ ?_ _) | (with_reducible refine Below.setCell ?_ ?_ _) | (with_reducible refine Below.drew ?_) | (with_reducible refine below_drewN ?_ _) | (with_reducible assumption) | (with_reducible refine below_after (by with_reducible assumption) ?_) | go_size))⟩
    · skip
      have HK1 := Lib.hid k1
      have HS1 : Hid (∀ w, Calls Tryd.prog 45 #[.agg #[.int .i64 a0, .int .i64 a1, .int .i64 a2]] w fun e w' => e = .returned (.bool true) ∧ Below w.heap.size w w') := fun w => by have := l08Spot_any a0 a1 a2 w; rwa [k1] at this
      clear k1
      obtain ⟨GC, hG⟩ : ∃ G, w.heap.size = G := ⟨_, rfl⟩
      have HG := Lib.hid hG
      go_enter Tryd.func58, Tryd.ntmps58
      go_upto_region 1 with fail
      obtain ⟨w0, hw0⟩ : ∃ w0, w0 = ((w.alloc (.cells #[.int .i64 c0, .int .i64 c1, .int .i64 c2, .int .i64 c3, .int .i64 c4, .int .i64 c5, .int .i64 c6, .int .i64 c7, .int .i64 c8] 39)).alloc (.cells #[.int .i64 a0, .int .i64 a1, .int .i64 a2] 26)) := ⟨_, rfl⟩
      rw [← hw0]
      have HC : Hid (Bk9 w0 GC c0 c1 c2 c3 c4 c5 c6 c7 c8) := by
        have h := (bk9_new w c0 c1 c2 c3 c4 c5 c6 c7 c8 39).below (W' := ((w.alloc (.cells #[.int .i64 c0, .int .i64 c1, .int .i64 c2, .int .i64 c3, .int .i64 c4, .int .i64 c5, .int .i64 c6, .int .i64 c7, .int .i64 c8] 39)).alloc (.cells #[.int .i64 a0, .int .i64 a1, .int .i64 a2] 26))) (by (repeat' (first | (with_reducible exact Below.refl _ _) | (with_reducible refine Below.alloc ?_ ?_ _) | (with_reducible refine Below.setCell ?_ ?_ _) | (with_reducible refine Below.drew ?_) | (with_reducible refine below_drewN ?_ _) | (with_reducible assumption) | (with_reducible refine below_after (by with_reducible assumption) ?_) | go_size)))
        (try simp only [World.size_alloc] at h)
        rw [hG] at h
        rw [hw0]; exact h
      have HA : Hid (Bk3 w0 (GC + 1) a0 a1 a2) := by
        have h := (bk3_new (w.alloc (.cells #[.int .i64 c0, .int .i64 c1, .int .i64 c2, .int .i64 c3, .int .i64 c4, .int .i64 c5, .int .i64 c6, .int .i64 c7, .int .i64 c8] 39)) a0 a1 a2 26).below (W' := ((w.alloc (.cells #[.int .i64 c0, .int .i64 c1, .int .i64 c2, .int .i64 c3, .int .i64 c4, .int .i64 c5, .int .i64 c6, .int .i64 c7, .int .i64 c8] 39)).alloc (.cells #[.int .i64 a0, .int .i64 a1, .int .i64 a2] 26))) (by (repeat' (first | (with_reducible exact Below.refl _ _) | (with_reducible refine Below.alloc ?_ ?_ _) | (with_reducible refine Below.setCell ?_ ?_ _) | (with_reducible refine Below.drew ?_) | (with_reducible refine below_drewN ?_ _) | (with_reducible assumption) | (with_reducible refine below_after (by with_reducible assumption) ?_) | go_size)))
        (try simp only [World.size_alloc] at h)
        rw [hG] at h
        rw [hw0]; exact h
      have HB : Hid (Below w.heap.size w w0) := by show Below w.heap.size w w0; rw [hw0]; (repeat' (first | (with_reducible exact Below.refl _ _) | (with_reducible refine Below.alloc ?_ ?_ _) | (with_reducible refine Below.setCell ?_ ?_ _) | (with_reducible refine Below.drew ?_) | (with_reducible refine below_drewN ?_ _) | (with_reducible assumption) | (with_reducible refine below_after (by with_reducible assumption) ?_) | go_size))
      clear hw0
      obtain ⟨GA, hGA⟩ : ∃ g, GC + 1 = g := ⟨_, rfl⟩
      rw [hGA] at HA ⊢
      have le_C : w.heap.size ≤ GC := by omega
      have le_A : w.heap.size ≤ GA := by omega
      have ne_A_C : GA ≠ GC := by omega
      have ne_C_A : GC ≠ GA := by omega
      clear hGA
      obtain ⟨⟨qC0, qC1, qC2, qC3, qC4, qC5, qC6, qC7, qC8⟩, ⟨fC0, fC1, fC2, fC3, fC4, fC5, fC6, fC7, fC8⟩, zC⟩ := HC.out
      obtain ⟨⟨qA0, qA1, qA2⟩, ⟨fA0, fA1, fA2⟩, zA⟩ := HA.out
      go_wp2_with fail
      go_at_call 68
      refine (HS0.out _).mono ?_
      rintro e w1 ⟨rfl, hb⟩
      clear qC0 fC0 qC1 fC1 qC2 fC2 qC3 fC3 qC4 fC4 qC5 fC5 qC6 fC6 qC7 fC7 qC8 fC8 zC qA0 fA0 qA1 fA1 qA2 fA2 zA
      have HC := Lib.hid (HC.out.below hb)
      have HA := Lib.hid (HA.out.below hb)
      have HB := Lib.hid (below_after hb HB.out)
      clear hb
      obtain ⟨⟨qC0, qC1, qC2, qC3, qC4, qC5, qC6, qC7, qC8⟩, ⟨fC0, fC1, fC2, fC3, fC4, fC5, fC6, fC7, fC8⟩, zC⟩ := HC.out
      obtain ⟨⟨qA0, qA1, qA2⟩, ⟨fA0, fA1, fA2⟩, zA⟩ := HA.out
      go_wp2_with fail
      go_at_call 45
      refine (HS1.out _).mono ?_
      rintro e w2 ⟨rfl, hb⟩
      clear qC0 fC0 qC1 fC1 qC2 fC2 qC3 fC3 qC4 fC4 qC5 fC5 qC6 fC6 qC7 fC7 qC8 fC8 zC qA0 fA0 qA1 fA1 qA2 fA2 zA
      have HC := Lib.hid (HC.out.below hb)
      have HA := Lib.hid (HA.out.below hb)
      have HB := Lib.hid (below_after hb HB.out)
      clear hb
      obtain ⟨⟨qC0, qC1, qC2, qC3, qC4, qC5, qC6, qC7, qC8⟩, ⟨fC0, fC1, fC2, fC3, fC4, fC5, fC6, fC7, fC8⟩, zC⟩ := HC.out
      obtain ⟨⟨qA0, qA1, qA2⟩, ⟨fA0, fA1, fA2⟩, zA⟩ := HA.out
      go_wp2_with fail
      refine bodyPost_ret (v := .int .i64 0) (by simp (maxDischargeDepth := 8) [results, Tryd.results58, go_sem, *]) rfl ?_
      have hb := HB.out
      exact ⟨by simp [ciO, bok, HK0.out, HK1.out], by (repeat' (first | (with_reducible exact Below.refl _ _) | (with_reducible refine Below.alloc ?_ ?_ _) | (with_reducible refine Below.setCell ?_ ?_ _) | (with_reducible refine Below.drew ?_) | (with_reducible refine below_drewN ?_ _) | (with_reducible assumption) | (with_reducible refine below_after (by with_reducible assumption) ?_) | go_size))⟩
set_option maxHeartbeats 800000 in
theorem l08Inside_any (c0 c1 c2 c3 c4 c5 c6 c7 c8 a0 a1 a2 : Int) (w : World) (g0 : W3 100000 c0 c1 c2) (g1 : W3 100000 c3 c4 c5) (g2 : W3 100000 c6 c7 c8) (h : W3 100000 a0 a1 a2) :
    Calls Tryd.prog 64 #[.agg #[.int .i64 c0, .int .i64 c1, .int .i64 c2, .int .i64 c3, .int .i64 c4, .int .i64 c5, .int .i64 c6, .int .i64 c7, .int .i64 c8], .agg #[.int .i64 a0, .int .i64 a1, .int .i64 a2]] w fun e w' => e = .returned (.bool (inV (co0 c0 c1 c2 c3 c4 c5 c6 c7 c8 a0 a1 a2) (co1 c0 c1 c2 c3 c4 c5 c6 c7 c8 a0 a1 a2) (co2 c0 c1 c2 c3 c4 c5 c6 c7 c8 a0 a1 a2))) ∧ Below w.heap.size w w' := by
  have HCO : Hid (∀ w, Calls Tryd.prog 59 #[.agg #[.int .i64 c0, .int .i64 c1, .int .i64 c2, .int .i64 c3, .int .i64 c4, .int .i64 c5, .int .i64 c6, .int .i64 c7, .int .i64 c8], .agg #[.int .i64 a0, .int .i64 a1, .int .i64 a2]] w fun e w' => e = .returned (.agg #[.int .i64 (co0 c0 c1 c2 c3 c4 c5 c6 c7 c8 a0 a1 a2), .int .i64 (co1 c0 c1 c2 c3 c4 c5 c6 c7 c8 a0 a1 a2), .int .i64 (co2 c0 c1 c2 c3 c4 c5 c6 c7 c8 a0 a1 a2)]) ∧ Below w.heap.size w w') := fun w => l08Coordinates_any c0 c1 c2 c3 c4 c5 c6 c7 c8 a0 a1 a2 w g0 g1 g2 h
  clear g0 g1 g2 h
  generalize co0 c0 c1 c2 c3 c4 c5 c6 c7 c8 a0 a1 a2 = X at *
  generalize co1 c0 c1 c2 c3 c4 c5 c6 c7 c8 a0 a1 a2 = Y at *
  generalize co2 c0 c1 c2 c3 c4 c5 c6 c7 c8 a0 a1 a2 = Z at *
  by_cases i0 : 0 ≤ X
  · have j0 : decide (0 ≤ X) = true := by simpa using i0
    by_cases i1 : 0 ≤ Y
    · have j1 : decide (0 ≤ Y) = true := by simpa using i1
      by_cases i2 : 0 ≤ Z
      · have j2 : decide (0 ≤ Z) = true := by simpa using i2
        obtain ⟨GC, hG⟩ : ∃ G, w.heap.size = G := ⟨_, rfl⟩
        have HG := Lib.hid hG
        go_enter Tryd.func64, Tryd.ntmps64
        go_upto_region 1 with fail
        obtain ⟨w0, hw0⟩ : ∃ w0, w0 = ((w.alloc (.cells #[.int .i64 c0, .int .i64 c1, .int .i64 c2, .int .i64 c3, .int .i64 c4, .int .i64 c5, .int .i64 c6, .int .i64 c7, .int .i64 c8] 39)).alloc (.cells #[.int .i64 a0, .int .i64 a1, .int .i64 a2] 26)) := ⟨_, rfl⟩
        rw [← hw0]
        have HC : Hid (Bk9 w0 GC c0 c1 c2 c3 c4 c5 c6 c7 c8) := by
          have h := (bk9_new w c0 c1 c2 c3 c4 c5 c6 c7 c8 39).below (W' := ((w.alloc (.cells #[.int .i64 c0, .int .i64 c1, .int .i64 c2, .int .i64 c3, .int .i64 c4, .int .i64 c5, .int .i64 c6, .int .i64 c7, .int .i64 c8] 39)).alloc (.cells #[.int .i64 a0, .int .i64 a1, .int .i64 a2] 26))) (by (repeat' (first | (with_reducible exact Below.refl _ _) | (with_reducible refine Below.alloc ?_ ?_ _) | (with_reducible refine Below.setCell ?_ ?_ _) | (with_reducible refine Below.drew ?_) | (with_reducible refine below_drewN ?_ _) | (with_reducible assumption) | (with_reducible refine below_after (by with_reducible assumption) ?_) | go_size)))
          (try simp only [World.size_alloc] at h)
          rw [hG] at h
          rw [hw0]; exact h
        have HA : Hid (Bk3 w0 (GC + 1) a0 a1 a2) := by
          have h := (bk3_new (w.alloc (.cells #[.int .i64 c0, .int .i64 c1, .int .i64 c2, .int .i64 c3, .int .i64 c4, .int .i64 c5, .int .i64 c6, .int .i64 c7, .int .i64 c8] 39)) a0 a1 a2 26).below (W' := ((w.alloc (.cells #[.int .i64 c0, .int .i64 c1, .int .i64 c2, .int .i64 c3, .int .i64 c4, .int .i64 c5, .int .i64 c6, .int .i64 c7, .int .i64 c8] 39)).alloc (.cells #[.int .i64 a0, .int .i64 a1, .int .i64 a2] 26))) (by (repeat' (first | (with_reducible exact Below.refl _ _) | (with_reducible refine Below.alloc ?_ ?_ _) | (with_reducible refine Below.setCell ?_ ?_ _) | (with_reducible refine Below.drew ?_) | (with_reducible refine below_drewN ?_ _) | (with_reducible assumption) | (with_reducible refine below_after (by with_reducible assumption) ?_) | go_size)))
          (try simp only [World.size_alloc] at h)
          rw [hG] at h
          rw [hw0]; exact h
        have HB : Hid (Below w.heap.size w w0) := by show Below w.heap.size w w0; rw [hw0]; (repeat' (first | (with_reducible exact Below.refl _ _) | (with_reducible refine Below.alloc ?_ ?_ _) | (with_reducible refine Below.setCell ?_ ?_ _) | (with_reducible refine Below.drew ?_) | (with_reducible refine below_drewN ?_ _) | (with_reducible assumption) | (with_reducible refine below_after (by with_reducible assumption) ?_) | go_size))
        clear hw0
        obtain ⟨GA, hGA⟩ : ∃ g, GC + 1 = g := ⟨_, rfl⟩
        rw [hGA] at HA ⊢
        have le_C : w.heap.size ≤ GC := by omega
        have le_A : w.heap.size ≤ GA := by omega
        have ne_A_C : GA ≠ GC := by omega
        have ne_C_A : GC ≠ GA := by omega
        clear hGA
        obtain ⟨⟨qC0, qC1, qC2, qC3, qC4, qC5, qC6, qC7, qC8⟩, ⟨fC0, fC1, fC2, fC3, fC4, fC5, fC6, fC7, fC8⟩, zC⟩ := HC.out
        obtain ⟨⟨qA0, qA1, qA2⟩, ⟨fA0, fA1, fA2⟩, zA⟩ := HA.out
        go_wp2_with fail
        go_at_call 59
        refine (HCO.out _).mono ?_
        rintro e w1 ⟨rfl, hb⟩
        clear qC0 fC0 qC1 fC1 qC2 fC2 qC3 fC3 qC4 fC4 qC5 fC5 qC6 fC6 qC7 fC7 qC8 fC8 zC qA0 fA0 qA1 fA1 qA2 fA2 zA
        have HC := Lib.hid (HC.out.below hb)
        have HA := Lib.hid (HA.out.below hb)
        have HB := Lib.hid (below_after hb HB.out)
        clear hb
        obtain ⟨⟨qC0, qC1, qC2, qC3, qC4, qC5, qC6, qC7, qC8⟩, ⟨fC0, fC1, fC2, fC3, fC4, fC5, fC6, fC7, fC8⟩, zC⟩ := HC.out
        obtain ⟨⟨qA0, qA1, qA2⟩, ⟨fA0, fA1, fA2⟩, zA⟩ := HA.out
        go_upto_region 2 with fail
        obtain ⟨GW, hGW⟩ : ∃ g, w1.heap.size = g := ⟨_, rfl⟩
        obtain ⟨w2, hw2⟩ : ∃ wx, wx = w1.alloc (.cells #[.int .i64 X, .int .i64 Y, .int .i64 Z] 26) := ⟨_, rfl⟩
        rw [← hw2, hGW]
        have HW : Hid (Bk3 w2 GW X Y Z) := by rw [hw2, ← hGW]; exact bk3_new w1 X Y Z _
        have le_W : w.heap.size ≤ GW := by rw [← hGW]; exact HB.out.size
        have ne_W_C : GW ≠ GC := by have := HC.out.2.2; omega
        have ne_C_W : GC ≠ GW := Ne.symm ne_W_C
        have ne_W_A : GW ≠ GA := by have := HA.out.2.2; omega
        have ne_A_W : GA ≠ GW := Ne.symm ne_W_A
        clear qC0 fC0 qC1 fC1 qC2 fC2 qC3 fC3 qC4 fC4 qC5 fC5 qC6 fC6 qC7 fC7 qC8 fC8 zC qA0 fA0 qA1 fA1 qA2 fA2 zA
        have HC := Lib.hid (HC.out.below ((Below.refl _ _).alloc (Nat.le_refl _) (.cells #[.int .i64 X, .int .i64 Y, .int .i64 Z] 26)))
        have HA := Lib.hid (HA.out.below ((Below.refl _ _).alloc (Nat.le_refl _) (.cells #[.int .i64 X, .int .i64 Y, .int .i64 Z] 26)))
        have HB := Lib.hid (Below.alloc HB.out HB.out.size (.cells #[.int .i64 X, .int .i64 Y, .int .i64 Z] 26))
        rw [← hw2] at HC HA HB
        clear hw2 hGW
        obtain ⟨⟨qC0, qC1, qC2, qC3, qC4, qC5, qC6, qC7, qC8⟩, ⟨fC0, fC1, fC2, fC3, fC4, fC5, fC6, fC7, fC8⟩, zC⟩ := HC.out
        obtain ⟨⟨qA0, qA1, qA2⟩, ⟨fA0, fA1, fA2⟩, zA⟩ := HA.out
        obtain ⟨⟨qW0, qW1, qW2⟩, ⟨fW0, fW1, fW2⟩, zW⟩ := HW.out
        go_wp2_with fail
        refine bodyPost_ret (v := .bool true) (by simp (maxDischargeDepth := 8) [results, Tryd.results64, go_sem, *]) rfl ?_
        have hb := HB.out
        exact ⟨by unfold inV; rw [j0, j1, j2]; rfl, by (repeat' (first | (with_reducible exact Below.refl _ _) | (with_reducible refine Below.alloc ?_ ?_ _) | (with_reducible refine Below.setCell ?_ ?_ _) | (with_reducible refine Below.drew ?_) | (with_reducible refine below_drewN ?_ _) | (with_reducible assumption) | (with_reducible refine below_after (by with_reducible assumption) ?_) | go_size))⟩
      · have j2 : decide (0 ≤ Z) = false := by simpa using i2
        obtain ⟨GC, hG⟩ : ∃ G, w.heap.size = G := ⟨_, rfl⟩
        have HG := Lib.hid hG
        go_enter Tryd.func64, Tryd.ntmps64
        go_upto_region 1 with fail
        obtain ⟨w0, hw0⟩ : ∃ w0, w0 = ((w.alloc (.cells #[.int .i64 c0, .int .i64 c1, .int .i64 c2, .int .i64 c3, .int .i64 c4, .int .i64 c5, .int .i64 c6, .int .i64 c7, .int .i64 c8] 39)).alloc (.cells #[.int .i64 a0, .int .i64 a1, .int .i64 a2] 26)) := ⟨_, rfl⟩
        rw [← hw0]
        have HC : Hid (Bk9 w0 GC c0 c1 c2 c3 c4 c5 c6 c7 c8) := by
          have h := (bk9_new w c0 c1 c2 c3 c4 c5 c6 c7 c8 39).below (W' := ((w.alloc (.cells #[.int .i64 c0, .int .i64 c1, .int .i64 c2, .int .i64 c3, .int .i64 c4, .int .i64 c5, .int .i64 c6, .int .i64 c7, .int .i64 c8] 39)).alloc (.cells #[.int .i64 a0, .int .i64 a1, .int .i64 a2] 26))) (by (repeat' (first | (with_reducible exact Below.refl _ _) | (with_reducible refine Below.alloc ?_ ?_ _) | (with_reducible refine Below.setCell ?_ ?_ _) | (with_reducible refine Below.drew ?_) | (with_reducible refine below_drewN ?_ _) | (with_reducible assumption) | (with_reducible refine below_after (by with_reducible assumption) ?_) | go_size)))
          (try simp only [World.size_alloc] at h)
          rw [hG] at h
          rw [hw0]; exact h
        have HA : Hid (Bk3 w0 (GC + 1) a0 a1 a2) := by
          have h := (bk3_new (w.alloc (.cells #[.int .i64 c0, .int .i64 c1, .int .i64 c2, .int .i64 c3, .int .i64 c4, .int .i64 c5, .int .i64 c6, .int .i64 c7, .int .i64 c8] 39)) a0 a1 a2 26).below (W' := ((w.alloc (.cells #[.int .i64 c0, .int .i64 c1, .int .i64 c2, .int .i64 c3, .int .i64 c4, .int .i64 c5, .int .i64 c6, .int .i64 c7, .int .i64 c8] 39)).alloc (.cells #[.int .i64 a0, .int .i64 a1, .int .i64 a2] 26))) (by (repeat' (first | (with_reducible exact Below.refl _ _) | (with_reducible refine Below.alloc ?_ ?_ _) | (with_reducible refine Below.setCell ?_ ?_ _) | (with_reducible refine Below.drew ?_) | (with_reducible refine below_drewN ?_ _) | (with_reducible assumption) | (with_reducible refine below_after (by with_reducible assumption) ?_) | go_size)))
          (try simp only [World.size_alloc] at h)
          rw [hG] at h
          rw [hw0]; exact h
        have HB : Hid (Below w.heap.size w w0) := by show Below w.heap.size w w0; rw [hw0]; (repeat' (first | (with_reducible exact Below.refl _ _) | (with_reducible refine Below.alloc ?_ ?_ _) | (with_reducible refine Below.setCell ?_ ?_ _) | (with_reducible refine Below.drew ?_) | (with_reducible refine below_drewN ?_ _) | (with_reducible assumption) | (with_reducible refine below_after (by with_reducible assumption) ?_) | go_size))
        clear hw0
        obtain ⟨GA, hGA⟩ : ∃ g, GC + 1 = g := ⟨_, rfl⟩
        rw [hGA] at HA ⊢
        have le_C : w.heap.size ≤ GC := by omega
        have le_A : w.heap.size ≤ GA := by omega
        have ne_A_C : GA ≠ GC := by omega
        have ne_C_A : GC ≠ GA := by omega
        clear hGA
        obtain ⟨⟨qC0, qC1, qC2, qC3, qC4, qC5, qC6, qC7, qC8⟩, ⟨fC0, fC1, fC2, fC3, fC4, fC5, fC6, fC7, fC8⟩, zC⟩ := HC.out
        obtain ⟨⟨qA0, qA1, qA2⟩, ⟨fA0, fA1, fA2⟩, zA⟩ := HA.out
        go_wp2_with fail
        go_at_call 59
        refine (HCO.out _).mono ?_
        rintro e w1 ⟨rfl, hb⟩
        clear qC0 fC0 qC1 fC1 qC2 fC2 qC3 fC3 qC4 fC4 qC5 fC5 qC6 fC6 qC7 fC7 qC8 fC8 zC qA0 fA0 qA1 fA1 qA2 fA2 zA
        have HC := Lib.hid (HC.out.below hb)
        have HA := Lib.hid (HA.out.below hb)
        have HB := Lib.hid (below_after hb HB.out)
        clear hb
        obtain ⟨⟨qC0, qC1, qC2, qC3, qC4, qC5, qC6, qC7, qC8⟩, ⟨fC0, fC1, fC2, fC3, fC4, fC5, fC6, fC7, fC8⟩, zC⟩ := HC.out
        obtain ⟨⟨qA0, qA1, qA2⟩, ⟨fA0, fA1, fA2⟩, zA⟩ := HA.out
        go_upto_region 2 with fail
        obtain ⟨GW, hGW⟩ : ∃ g, w1.heap.size = g := ⟨_, rfl⟩
        obtain ⟨w2, hw2⟩ : ∃ wx, wx = w1.alloc (.cells #[.int .i64 X, .int .i64 Y, .int .i64 Z] 26) := ⟨_, rfl⟩
        rw [← hw2, hGW]
        have HW : Hid (Bk3 w2 GW X Y Z) := by rw [hw2, ← hGW]; exact bk3_new w1 X Y Z _
        have le_W : w.heap.size ≤ GW := by rw [← hGW]; exact HB.out.size
        have ne_W_C : GW ≠ GC := by have := HC.out.2.2; omega
        have ne_C_W : GC ≠ GW := Ne.symm ne_W_C
        have ne_W_A : GW ≠ GA := by have := HA.out.2.2; omega
        have ne_A_W : GA ≠ GW := Ne.symm ne_W_A
        clear qC0 fC0 qC1 fC1 qC2 fC2 qC3 fC3 qC4 fC4 qC5 fC5 qC6 fC6 qC7 fC7 qC8 fC8 zC qA0 fA0 qA1 fA1 qA2 fA2 zA
        have HC := Lib.hid (HC.out.below ((Below.refl _ _).alloc (Nat.le_refl _) (.cells #[.int .i64 X, .int .i64 Y, .int .i64 Z] 26)))
        have HA := Lib.hid (HA.out.below ((Below.refl _ _).alloc (Nat.le_refl _) (.cells #[.int .i64 X, .int .i64 Y, .int .i64 Z] 26)))
        have HB := Lib.hid (Below.alloc HB.out HB.out.size (.cells #[.int .i64 X, .int .i64 Y, .int .i64 Z] 26))
        rw [← hw2] at HC HA HB
        clear hw2 hGW
        obtain ⟨⟨qC0, qC1, qC2, qC3, qC4, qC5, qC6, qC7, qC8⟩, ⟨fC0, fC1, fC2, fC3, fC4, fC5, fC6, fC7, fC8⟩, zC⟩ := HC.out
        obtain ⟨⟨qA0, qA1, qA2⟩, ⟨fA0, fA1, fA2⟩, zA⟩ := HA.out
        obtain ⟨⟨qW0, qW1, qW2⟩, ⟨fW0, fW1, fW2⟩, zW⟩ := HW.out
        go_wp2_with fail
        refine bodyPost_ret (v := .bool false) (by simp (maxDischargeDepth := 8) [results, Tryd.results64, go_sem, *]) rfl ?_
        have hb := HB.out
        exact ⟨by unfold inV; rw [j0, j1, j2]; rfl, by (repeat' (first | (with_reducible exact Below.refl _ _) | (with_reducible refine Below.alloc ?_ ?_ _) | (with_reducible refine Below.setCell ?_ ?_ _) | (with_reducible refine Below.drew ?_) | (with_reducible refine below_drewN ?_ _) | (with_reducible assumption) | (with_reducible refine below_after (by with_reducible assumption) ?_) | go_size))⟩
    · have j1 : decide (0 ≤ Y) = false := by simpa using i1
      obtain ⟨GC, hG⟩ : ∃ G, w.heap.size = G := ⟨_, rfl⟩
      have HG := Lib.hid hG
      go_enter Tryd.func64, Tryd.ntmps64
      go_upto_region 1 with fail
      obtain ⟨w0, hw0⟩ : ∃ w0, w0 = ((w.alloc (.cells #[.int .i64 c0, .int .i64 c1, .int .i64 c2, .int .i64 c3, .int .i64 c4, .int .i64 c5, .int .i64 c6, .int .i64 c7, .int .i64 c8] 39)).alloc (.cells #[.int .i64 a0, .int .i64 a1, .int .i64 a2] 26)) := ⟨_, rfl⟩
      rw [← hw0]
      have HC : Hid (Bk9 w0 GC c0 c1 c2 c3 c4 c5 c6 c7 c8) := by
        have h := (bk9_new w c0 c1 c2 c3 c4 c5 c6 c7 c8 39).below (W' := ((w.alloc (.cells #[.int .i64 c0, .int .i64 c1, .int .i64 c2, .int .i64 c3, .int .i64 c4, .int .i64 c5, .int .i64 c6, .int .i64 c7, .int .i64 c8] 39)).alloc (.cells #[.int .i64 a0, .int .i64 a1, .int .i64 a2] 26))) (by (repeat' (first | (with_reducible exact Below.refl _ _) | (with_reducible refine Below.alloc ?_ ?_ _) | (with_reducible refine Below.setCell ?_ ?_ _) | (with_reducible refine Below.drew ?_) | (with_reducible refine below_drewN ?_ _) | (with_reducible assumption) | (with_reducible refine below_after (by with_reducible assumption) ?_) | go_size)))
        (try simp only [World.size_alloc] at h)
        rw [hG] at h
        rw [hw0]; exact h
      have HA : Hid (Bk3 w0 (GC + 1) a0 a1 a2) := by
        have h := (bk3_new (w.alloc (.cells #[.int .i64 c0, .int .i64 c1, .int .i64 c2, .int .i64 c3, .int .i64 c4, .int .i64 c5, .int .i64 c6, .int .i64 c7, .int .i64 c8] 39)) a0 a1 a2 26).below (W' := ((w.alloc (.cells #[.int .i64 c0, .int .i64 c1, .int .i64 c2, .int .i64 c3, .int .i64 c4, .int .i64 c5, .int .i64 c6, .int .i64 c7, .int .i64 c8] 39)).alloc (.cells #[.int .i64 a0, .int .i64 a1, .int .i64 a2] 26))) (by (repeat' (first | (with_reducible exact Below.refl _ _) | (with_reducible refine Below.alloc ?_ ?_ _) | (with_reducible refine Below.setCell ?_ ?_ _) | (with_reducible refine Below.drew ?_) | (with_reducible refine below_drewN ?_ _) | (with_reducible assumption) | (with_reducible refine below_after (by with_reducible assumption) ?_) | go_size)))
        (try simp only [World.size_alloc] at h)
        rw [hG] at h
        rw [hw0]; exact h
      have HB : Hid (Below w.heap.size w w0) := by show Below w.heap.size w w0; rw [hw0]; (repeat' (first | (with_reducible exact Below.refl _ _) | (with_reducible refine Below.alloc ?_ ?_ _) | (with_reducible refine Below.setCell ?_ ?_ _) | (with_reducible refine Below.drew ?_) | (with_reducible refine below_drewN ?_ _) | (with_reducible assumption) | (with_reducible refine below_after (by with_reducible assumption) ?_) | go_size))
      clear hw0
      obtain ⟨GA, hGA⟩ : ∃ g, GC + 1 = g := ⟨_, rfl⟩
      rw [hGA] at HA ⊢
      have le_C : w.heap.size ≤ GC := by omega
      have le_A : w.heap.size ≤ GA := by omega
      have ne_A_C : GA ≠ GC := by omega
      have ne_C_A : GC ≠ GA := by omega
      clear hGA
      obtain ⟨⟨qC0, qC1, qC2, qC3, qC4, qC5, qC6, qC7, qC8⟩, ⟨fC0, fC1, fC2, fC3, fC4, fC5, fC6, fC7, fC8⟩, zC⟩ := HC.out
      obtain ⟨⟨qA0, qA1, qA2⟩, ⟨fA0, fA1, fA2⟩, zA⟩ := HA.out
      go_wp2_with fail
      go_at_call 59
      refine (HCO.out _).mono ?_
      rintro e w1 ⟨rfl, hb⟩
      clear qC0 fC0 qC1 fC1 qC2 fC2 qC3 fC3 qC4 fC4 qC5 fC5 qC6 fC6 qC7 fC7 qC8 fC8 zC qA0 fA0 qA1 fA1 qA2 fA2 zA
      have HC := Lib.hid (HC.out.below hb)
      have HA := Lib.hid (HA.out.below hb)
      have HB := Lib.hid (below_after hb HB.out)
      clear hb
      obtain ⟨⟨qC0, qC1, qC2, qC3, qC4, qC5, qC6, qC7, qC8⟩, ⟨fC0, fC1, fC2, fC3, fC4, fC5, fC6, fC7, fC8⟩, zC⟩ := HC.out
      obtain ⟨⟨qA0, qA1, qA2⟩, ⟨fA0, fA1, fA2⟩, zA⟩ := HA.out
      go_upto_region 2 with fail
      obtain ⟨GW, hGW⟩ : ∃ g, w1.heap.size = g := ⟨_, rfl⟩
      obtain ⟨w2, hw2⟩ : ∃ wx, wx = w1.alloc (.cells #[.int .i64 X, .int .i64 Y, .int .i64 Z] 26) := ⟨_, rfl⟩
      rw [← hw2, hGW]
      have HW : Hid (Bk3 w2 GW X Y Z) := by rw [hw2, ← hGW]; exact bk3_new w1 X Y Z _
      have le_W : w.heap.size ≤ GW := by rw [← hGW]; exact HB.out.size
      have ne_W_C : GW ≠ GC := by have := HC.out.2.2; omega
      have ne_C_W : GC ≠ GW := Ne.symm ne_W_C
      have ne_W_A : GW ≠ GA := by have := HA.out.2.2; omega
      have ne_A_W : GA ≠ GW := Ne.symm ne_W_A
      clear qC0 fC0 qC1 fC1 qC2 fC2 qC3 fC3 qC4 fC4 qC5 fC5 qC6 fC6 qC7 fC7 qC8 fC8 zC qA0 fA0 qA1 fA1 qA2 fA2 zA
      have HC := Lib.hid (HC.out.below ((Below.refl _ _).alloc (Nat.le_refl _) (.cells #[.int .i64 X, .int .i64 Y, .int .i64 Z] 26)))
      have HA := Lib.hid (HA.out.below ((Below.refl _ _).alloc (Nat.le_refl _) (.cells #[.int .i64 X, .int .i64 Y, .int .i64 Z] 26)))
      have HB := Lib.hid (Below.alloc HB.out HB.out.size (.cells #[.int .i64 X, .int .i64 Y, .int .i64 Z] 26))
      rw [← hw2] at HC HA HB
      clear hw2 hGW
      obtain ⟨⟨qC0, qC1, qC2, qC3, qC4, qC5, qC6, qC7, qC8⟩, ⟨fC0, fC1, fC2, fC3, fC4, fC5, fC6, fC7, fC8⟩, zC⟩ := HC.out
      obtain ⟨⟨qA0, qA1, qA2⟩, ⟨fA0, fA1, fA2⟩, zA⟩ := HA.out
      obtain ⟨⟨qW0, qW1, qW2⟩, ⟨fW0, fW1, fW2⟩, zW⟩ := HW.out
      go_wp2_with fail
      refine bodyPost_ret (v := .bool false) (by simp (maxDischargeDepth := 8) [results, Tryd.results64, go_sem, *]) rfl ?_
      have hb := HB.out
      exact ⟨by unfold inV; rw [j0, j1]; rfl, by (repeat' (first | (with_reducible exact Below.refl _ _) | (with_reducible refine Below.alloc ?_ ?_ _) | (with_reducible refine Below.setCell ?_ ?_ _) | (with_reducible refine Below.drew ?_) | (with_reducible refine below_drewN ?_ _) | (with_reducible assumption) | (with_reducible refine below_after (by with_reducible assumption) ?_) | go_size))⟩
  · have j0 : decide (0 ≤ X) = false := by simpa using i0
    obtain ⟨GC, hG⟩ : ∃ G, w.heap.size = G := ⟨_, rfl⟩
    have HG := Lib.hid hG
    go_enter Tryd.func64, Tryd.ntmps64
    go_upto_region 1 with fail
    obtain ⟨w0, hw0⟩ : ∃ w0, w0 = ((w.alloc (.cells #[.int .i64 c0, .int .i64 c1, .int .i64 c2, .int .i64 c3, .int .i64 c4, .int .i64 c5, .int .i64 c6, .int .i64 c7, .int .i64 c8] 39)).alloc (.cells #[.int .i64 a0, .int .i64 a1, .int .i64 a2] 26)) := ⟨_, rfl⟩
    rw [← hw0]
    have HC : Hid (Bk9 w0 GC c0 c1 c2 c3 c4 c5 c6 c7 c8) := by
      have h := (bk9_new w c0 c1 c2 c3 c4 c5 c6 c7 c8 39).below (W' := ((w.alloc (.cells #[.int .i64 c0, .int .i64 c1, .int .i64 c2, .int .i64 c3, .int .i64 c4, .int .i64 c5, .int .i64 c6, .int .i64 c7, .int .i64 c8] 39)).alloc (.cells #[.int .i64 a0, .int .i64 a1, .int .i64 a2] 26))) (by (repeat' (first | (with_reducible exact Below.refl _ _) | (with_reducible refine Below.alloc ?_ ?_ _) | (with_reducible refine Below.setCell ?_ ?_ _) | (with_reducible refine Below.drew ?_) | (with_reducible refine below_drewN ?_ _) | (with_reducible assumption) | (with_reducible refine below_after (by with_reducible assumption) ?_) | go_size)))
      (try simp only [World.size_alloc] at h)
      rw [hG] at h
      rw [hw0]; exact h
    have HA : Hid (Bk3 w0 (GC + 1) a0 a1 a2) := by
      have h := (bk3_new (w.alloc (.cells #[.int .i64 c0, .int .i64 c1, .int .i64 c2, .int .i64 c3, .int .i64 c4, .int .i64 c5, .int .i64 c6, .int .i64 c7, .int .i64 c8] 39)) a0 a1 a2 26).below (W' := ((w.alloc (.cells #[.int .i64 c0, .int .i64 c1, .int .i64 c2, .int .i64 c3, .int .i64 c4, .int .i64 c5, .int .i64 c6, .int .i64 c7, .int .i64 c8] 39)).alloc (.cells #[.int .i64 a0, .int .i64 a1, .int .i64 a2] 26))) (by (repeat' (first | (with_reducible exact Below.refl _ _) | (with_reducible refine Below.alloc ?_ ?_ _) | (with_reducible refine Below.setCell ?_ ?_ _) | (with_reducible refine Below.drew ?_) | (with_reducible refine below_drewN ?_ _) | (with_reducible assumption) | (with_reducible refine below_after (by with_reducible assumption) ?_) | go_size)))
      (try simp only [World.size_alloc] at h)
      rw [hG] at h
      rw [hw0]; exact h
    have HB : Hid (Below w.heap.size w w0) := by show Below w.heap.size w w0; rw [hw0]; (repeat' (first | (with_reducible exact Below.refl _ _) | (with_reducible refine Below.alloc ?_ ?_ _) | (with_reducible refine Below.setCell ?_ ?_ _) | (with_reducible refine Below.drew ?_) | (with_reducible refine below_drewN ?_ _) | (with_reducible assumption) | (with_reducible refine below_after (by with_reducible assumption) ?_) | go_size))
    clear hw0
    obtain ⟨GA, hGA⟩ : ∃ g, GC + 1 = g := ⟨_, rfl⟩
    rw [hGA] at HA ⊢
    have le_C : w.heap.size ≤ GC := by omega
    have le_A : w.heap.size ≤ GA := by omega
    have ne_A_C : GA ≠ GC := by omega
    have ne_C_A : GC ≠ GA := by omega
    clear hGA
    obtain ⟨⟨qC0, qC1, qC2, qC3, qC4, qC5, qC6, qC7, qC8⟩, ⟨fC0, fC1, fC2, fC3, fC4, fC5, fC6, fC7, fC8⟩, zC⟩ := HC.out
    obtain ⟨⟨qA0, qA1, qA2⟩, ⟨fA0, fA1, fA2⟩, zA⟩ := HA.out
    go_wp2_with fail
    go_at_call 59
    refine (HCO.out _).mono ?_
    rintro e w1 ⟨rfl, hb⟩
    clear qC0 fC0 qC1 fC1 qC2 fC2 qC3 fC3 qC4 fC4 qC5 fC5 qC6 fC6 qC7 fC7 qC8 fC8 zC qA0 fA0 qA1 fA1 qA2 fA2 zA
    have HC := Lib.hid (HC.out.below hb)
    have HA := Lib.hid (HA.out.below hb)
    have HB := Lib.hid (below_after hb HB.out)
    clear hb
    obtain ⟨⟨qC0, qC1, qC2, qC3, qC4, qC5, qC6, qC7, qC8⟩, ⟨fC0, fC1, fC2, fC3, fC4, fC5, fC6, fC7, fC8⟩, zC⟩ := HC.out
    obtain ⟨⟨qA0, qA1, qA2⟩, ⟨fA0, fA1, fA2⟩, zA⟩ := HA.out
    go_upto_region 2 with fail
    obtain ⟨GW, hGW⟩ : ∃ g, w1.heap.size = g := ⟨_, rfl⟩
    obtain ⟨w2, hw2⟩ : ∃ wx, wx = w1.alloc (.cells #[.int .i64 X, .int .i64 Y, .int .i64 Z] 26) := ⟨_, rfl⟩
    rw [← hw2, hGW]
    have HW : Hid (Bk3 w2 GW X Y Z) := by rw [hw2, ← hGW]; exact bk3_new w1 X Y Z _
    have le_W : w.heap.size ≤ GW := by rw [← hGW]; exact HB.out.size
    have ne_W_C : GW ≠ GC := by have := HC.out.2.2; omega
    have ne_C_W : GC ≠ GW := Ne.symm ne_W_C
    have ne_W_A : GW ≠ GA := by have := HA.out.2.2; omega
    have ne_A_W : GA ≠ GW := Ne.symm ne_W_A
    clear qC0 fC0 qC1 fC1 qC2 fC2 qC3 fC3 qC4 fC4 qC5 fC5 qC6 fC6 qC7 fC7 qC8 fC8 zC qA0 fA0 qA1 fA1 qA2 fA2 zA
    have HC := Lib.hid (HC.out.below ((Below.refl _ _).alloc (Nat.le_refl _) (.cells #[.int .i64 X, .int .i64 Y, .int .i64 Z] 26)))
    have HA := Lib.hid (HA.out.below ((Below.refl _ _).alloc (Nat.le_refl _) (.cells #[.int .i64 X, .int .i64 Y, .int .i64 Z] 26)))
    have HB := Lib.hid (Below.alloc HB.out HB.out.size (.cells #[.int .i64 X, .int .i64 Y, .int .i64 Z] 26))
    rw [← hw2] at HC HA HB
    clear hw2 hGW
    obtain ⟨⟨qC0, qC1, qC2, qC3, qC4, qC5, qC6, qC7, qC8⟩, ⟨fC0, fC1, fC2, fC3, fC4, fC5, fC6, fC7, fC8⟩, zC⟩ := HC.out
    obtain ⟨⟨qA0, qA1, qA2⟩, ⟨fA0, fA1, fA2⟩, zA⟩ := HA.out
    obtain ⟨⟨qW0, qW1, qW2⟩, ⟨fW0, fW1, fW2⟩, zW⟩ := HW.out
    go_wp2_with fail
    refine bodyPost_ret (v := .bool false) (by simp (maxDischargeDepth := 8) [results, Tryd.results64, go_sem, *]) rfl ?_
    have hb := HB.out
    exact ⟨by unfold inV; rw [j0]; rfl, by (repeat' (first | (with_reducible exact Below.refl _ _) | (with_reducible refine Below.alloc ?_ ?_ _) | (with_reducible refine Below.setCell ?_ ?_ _) | (with_reducible refine Below.drew ?_) | (with_reducible refine below_drewN ?_ _) | (with_reducible assumption) | (with_reducible refine below_after (by with_reducible assumption) ?_) | go_size))⟩
set_option maxHeartbeats 800000 in
theorem spec_CoordinatesIn_any (c0 c1 c2 c3 c4 c5 c6 c7 c8 a0 a1 a2 : Int) (w : World) :
    Calls Tryd.prog 24 #[.agg #[.int .i64 c0, .int .i64 c1, .int .i64 c2, .int .i64 c3, .int .i64 c4, .int .i64 c5, .int .i64 c6, .int .i64 c7, .int .i64 c8], .agg #[.int .i64 a0, .int .i64 a1, .int .i64 a2]] w fun e w' => ∃ v, e = .returned (.tuple #[v, .int .i64 (bok (ciO c0 c1 c2 c3 c4 c5 c6 c7 c8 a0 a1 a2))]) ∧ OwnE 2 w.heap.size w' v (ciL c0 c1 c2 c3 c4 c5 c6 c7 c8 a0 a1 a2) ∧ Below w.heap.size w w' := by
  cases k0 : ciO c0 c1 c2 c3 c4 c5 c6 c7 c8 a0 a1 a2
  · have HC0 : Hid (∀ w, Calls Tryd.prog 58 #[.agg #[.int .i64 c0, .int .i64 c1, .int .i64 c2, .int .i64 c3, .int .i64 c4, .int .i64 c5, .int .i64 c6, .int .i64 c7, .int .i64 c8], .agg #[.int .i64 a0, .int .i64 a1, .int .i64 a2]] w fun e w' => e = .returned (.int .i64 1) ∧ Below w.heap.size w w') := fun w => by have := l08Code_any c0 c1 c2 c3 c4 c5 c6 c7 c8 a0 a1 a2 w; rwa [k0] at this
    have HK0 := Lib.hid k0
    clear k0
    obtain ⟨GC, hG⟩ : ∃ G, w.heap.size = G := ⟨_, rfl⟩
    have HG := Lib.hid hG
    go_enter Tryd.func24, Tryd.ntmps24
    go_upto_region 1 with fail
    obtain ⟨w0, hw0⟩ : ∃ w0, w0 = ((w.alloc (.cells #[.int .i64 c0, .int .i64 c1, .int .i64 c2, .int .i64 c3, .int .i64 c4, .int .i64 c5, .int .i64 c6, .int .i64 c7, .int .i64 c8] 39)).alloc (.cells #[.int .i64 a0, .int .i64 a1, .int .i64 a2] 26)) := ⟨_, rfl⟩
    rw [← hw0]
    have HC : Hid (Bk9 w0 GC c0 c1 c2 c3 c4 c5 c6 c7 c8) := by
      have h := (bk9_new w c0 c1 c2 c3 c4 c5 c6 c7 c8 39).below (W' := ((w.alloc (.cells #[.int .i64 c0, .int .i64 c1, .int .i64 c2, .int .i64 c3, .int .i64 c4, .int .i64 c5, .int .i64 c6, .int .i64 c7, .int .i64 c8] 39)).alloc (.cells #[.int .i64 a0, .int .i64 a1, .int .i64 a2] 26))) (by (repeat' (first | (with_reducible exact Below.refl _ _) | (with_reducible refine Below.alloc ?_ ?_ _) | (with_reducible refine Below.setCell ?_ ?_ _) | (with_reducible refine Below.drew ?_) | (with_reducible refine below_drewN ?_ _) | (with_reducible assumption) | (with_reducible refine below_after (by with_reducible assumption) ?_) | go_size)))
      (try simp only [World.size_alloc] at h)
      rw [hG] at h
      rw [hw0]; exact h
    have HA : Hid (Bk3 w0 (GC + 1) a0 a1 a2) := by
      have h := (bk3_new (w.alloc (.cells #[.int .i64 c0, .int .i64 c1, .int .i64 c2, .int .i64 c3, .int .i64 c4, .int .i64 c5, .int .i64 c6, .int .i64 c7, .int .i64 c8] 39)) a0 a1 a2 26).below (W' := ((w.alloc (.cells #[.int .i64 c0, .int .i64 c1, .int .i64 c2, .int .i64 c3, .int .i64 c4, .int .i64 c5, .int .i64 c6, .int .i64 c7, .int .i64 c8] 39)).alloc (.cells #[.int .i64 a0, .int .i64 a1, .int .i64 a2] 26))) (by (repeat' (first | (with_reducible exact Below.refl _ _) | (with_reducible refine Below.alloc ?_ ?_ _) | (with_reducible refine Below.setCell ?_ ?_ _) | (with_reducible refine Below.drew ?_) | (with_reducible refine below_drewN ?_ _) | (with_reducible assumption) | (with_reducible refine below_after (by with_reducible assumption) ?_) | go_size)))
      (try simp only [World.size_alloc] at h)
      rw [hG] at h
      rw [hw0]; exact h
    have HB : Hid (Below w.heap.size w w0) := by show Below w.heap.size w w0; rw [hw0]; (repeat' (first | (with_reducible exact Below.refl _ _) | (with_reducible refine Below.alloc ?_ ?_ _) | (with_reducible refine Below.setCell ?_ ?_ _) | (with_reducible refine Below.drew ?_) | (with_reducible refine below_drewN ?_ _) | (with_reducible assumption) | (with_reducible refine below_after (by with_reducible assumption) ?_) | go_size))
    clear hw0
    obtain ⟨GA, hGA⟩ : ∃ g, GC + 1 = g := ⟨_, rfl⟩
    rw [hGA] at HA ⊢
    have le_C : w.heap.size ≤ GC := by omega
    have le_A : w.heap.size ≤ GA := by omega
    have ne_A_C : GA ≠ GC := by omega
    have ne_C_A : GC ≠ GA := by omega
    clear hGA
    obtain ⟨⟨qC0, qC1, qC2, qC3, qC4, qC5, qC6, qC7, qC8⟩, ⟨fC0, fC1, fC2, fC3, fC4, fC5, fC6, fC7, fC8⟩, zC⟩ := HC.out
    obtain ⟨⟨qA0, qA1, qA2⟩, ⟨fA0, fA1, fA2⟩, zA⟩ := HA.out
    go_wp2_with fail
    go_at_call 58
    refine (HC0.out _).mono ?_
    rintro e w1 ⟨rfl, hb⟩
    clear qC0 fC0 qC1 fC1 qC2 fC2 qC3 fC3 qC4 fC4 qC5 fC5 qC6 fC6 qC7 fC7 qC8 fC8 zC qA0 fA0 qA1 fA1 qA2 fA2 zA
    have HC := Lib.hid (HC.out.below hb)
    have HA := Lib.hid (HA.out.below hb)
    have HB := Lib.hid (below_after hb HB.out)
    clear hb
    obtain ⟨⟨qC0, qC1, qC2, qC3, qC4, qC5, qC6, qC7, qC8⟩, ⟨fC0, fC1, fC2, fC3, fC4, fC5, fC6, fC7, fC8⟩, zC⟩ := HC.out
    obtain ⟨⟨qA0, qA1, qA2⟩, ⟨fA0, fA1, fA2⟩, zA⟩ := HA.out
    go_wp2_with fail
    refine bodyPost_ret (v := .tuple #[.slice none 0 0, .int .i64 1]) (by simp (maxDischargeDepth := 8) [results, Tryd.results24, go_sem, *]) rfl ?_
    have hb := HB.out
    exact ⟨.slice none 0 0, by simp [ciL, bls, bok, HK0.out], by simp [ciL, bls, bok, HK0.out]; exact OwnE.nil _ _, by (repeat' (first | (with_reducible exact Below.refl _ _) | (with_reducible refine Below.alloc ?_ ?_ _) | (with_reducible refine Below.setCell ?_ ?_ _) | (with_reducible refine Below.drew ?_) | (with_reducible refine below_drewN ?_ _) | (with_reducible assumption) | (with_reducible refine below_after (by with_reducible assumption) ?_) | go_size))⟩
  · have HC0 : Hid (∀ w, Calls Tryd.prog 58 #[.agg #[.int .i64 c0, .int .i64 c1, .int .i64 c2, .int .i64 c3, .int .i64 c4, .int .i64 c5, .int .i64 c6, .int .i64 c7, .int .i64 c8], .agg #[.int .i64 a0, .int .i64 a1, .int .i64 a2]] w fun e w' => e = .returned (.int .i64 0) ∧ Below w.heap.size w w') := fun w => by have := l08Code_any c0 c1 c2 c3 c4 c5 c6 c7 c8 a0 a1 a2 w; rwa [k0] at this
    have HKO := Lib.hid k0
    have HK0 : Hid (isCo c0 c1 c2 c3 c4 c5 c6 c7 c8 = true) := by have := k0; simp only [ciO, Bool.and_eq_true] at this; exact this.1
    have HK1 : Hid (isSp a0 a1 a2 = true) := by have := k0; simp only [ciO, Bool.and_eq_true] at this; exact this.2
    clear k0
    have HCO : Hid (∀ w, Calls Tryd.prog 59 #[.agg #[.int .i64 c0, .int .i64 c1, .int .i64 c2, .int .i64 c3, .int .i64 c4, .int .i64 c5, .int .i64 c6, .int .i64 c7, .int .i64 c8], .agg #[.int .i64 a0, .int .i64 a1, .int .i64 a2]] w fun e w' => e = .returned (.agg #[.int .i64 (co0 c0 c1 c2 c3 c4 c5 c6 c7 c8 a0 a1 a2), .int .i64 (co1 c0 c1 c2 c3 c4 c5 c6 c7 c8 a0 a1 a2), .int .i64 (co2 c0 c1 c2 c3 c4 c5 c6 c7 c8 a0 a1 a2)]) ∧ Below w.heap.size w w') := fun w => l08Coordinates_any c0 c1 c2 c3 c4 c5 c6 c7 c8 a0 a1 a2 w ((isCo_parts HK0.out).1.up (by omega)) ((isCo_parts HK0.out).2.1.up (by omega)) ((isCo_parts HK0.out).2.2.1.up (by omega)) ((isSp_W3 HK1.out).up (by omega))
    have HE : Hid (ciL c0 c1 c2 c3 c4 c5 c6 c7 c8 a0 a1 a2 = [co0 c0 c1 c2 c3 c4 c5 c6 c7 c8 a0 a1 a2, co1 c0 c1 c2 c3 c4 c5 c6 c7 c8 a0 a1 a2, co2 c0 c1 c2 c3 c4 c5 c6 c7 c8 a0 a1 a2]) := by show _ = _; simp [ciL, bls, HKO.out]
    generalize co0 c0 c1 c2 c3 c4 c5 c6 c7 c8 a0 a1 a2 = X at *
    generalize co1 c0 c1 c2 c3 c4 c5 c6 c7 c8 a0 a1 a2 = Y at *
    generalize co2 c0 c1 c2 c3 c4 c5 c6 c7 c8 a0 a1 a2 = Z at *
    generalize ciL c0 c1 c2 c3 c4 c5 c6 c7 c8 a0 a1 a2 = L at *
    obtain ⟨GC, hG⟩ : ∃ G, w.heap.size = G := ⟨_, rfl⟩
    have HG := Lib.hid hG
    go_enter Tryd.func24, Tryd.ntmps24
    go_upto_region 1 with fail
    obtain ⟨w0, hw0⟩ : ∃ w0, w0 = ((w.alloc (.cells #[.int .i64 c0, .int .i64 c1, .int .i64 c2, .int .i64 c3, .int .i64 c4, .int .i64 c5, .int .i64 c6, .int .i64 c7, .int .i64 c8] 39)).alloc (.cells #[.int .i64 a0, .int .i64 a1, .int .i64 a2] 26)) := ⟨_, rfl⟩
    rw [← hw0]
    have HC : Hid (Bk9 w0 GC c0 c1 c2 c3 c4 c5 c6 c7 c8) := by
      have h := (bk9_new w c0 c1 c2 c3 c4 c5 c6 c7 c8 39).below (W' := ((w.alloc (.cells #[.int .i64 c0, .int .i64 c1, .int .i64 c2, .int .i64 c3, .int .i64 c4, .int .i64 c5, .int .i64 c6, .int .i64 c7, .int .i64 c8] 39)).alloc (.cells #[.int .i64 a0, .int .i64 a1, .int .i64 a2] 26))) (by (repeat' (first | (with_reducible exact Below.refl _ _) | (with_reducible refine Below.alloc ?_ ?_ _) | (with_reducible refine Below.setCell ?_ ?_ _) | (with_reducible refine Below.drew ?_) | (with_reducible refine below_drewN ?_ _) | (with_reducible assumption) | (with_reducible refine below_after (by with_reducible assumption) ?_) | go_size)))
      (try simp only [World.size_alloc] at h)
      rw [hG] at h
      rw [hw0]; exact h
    have HA : Hid (Bk3 w0 (GC + 1) a0 a1 a2) := by
      have h := (bk3_new (w.alloc (.cells #[.int .i64 c0, .int .i64 c1, .int .i64 c2, .int .i64 c3, .int .i64 c4, .int .i64 c5, .int .i64 c6, .int .i64 c7, .int .i64 c8] 39)) a0 a1 a2 26).below (W' := ((w.alloc (.cells #[.int .i64 c0, .int .i64 c1, .int .i64 c2, .int .i64 c3, .int .i64 c4, .int .i64 c5, .int .i64 c6, .int .i64 c7, .int .i64 c8] 39)).alloc (.cells #[.int .i64 a0, .int .i64 a1, .int .i64 a2] 26))) (by (repeat' (first | (with_reducible exact Below.refl _ _) | (with_reducible refine Below.alloc ?_ ?_ _) | (with_reducible refine Below.setCell ?_ ?_ _) | (with_reducible refine Below.drew ?_) | (with_reducible refine below_drewN ?_ _) | (with_reducible assumption) | (with_reducible refine below_after (by with_reducible assumption) ?_) | go_size)))
      (try simp only [World.size_alloc] at h)
      rw [hG] at h
      rw [hw0]; exact h
    have HB : Hid (Below w.heap.size w w0) := by show Below w.heap.size w w0; rw [hw0]; (repeat' (first | (with_reducible exact Below.refl _ _) | (with_reducible refine Below.alloc ?_ ?_ _) | (with_reducible refine Below.setCell ?_ ?_ _) | (with_reducible refine Below.drew ?_) | (with_reducible refine below_drewN ?_ _) | (with_reducible assumption) | (with_reducible refine below_after (by with_reducible assumption) ?_) | go_size))
    clear hw0
    obtain ⟨GA, hGA⟩ : ∃ g, GC + 1 = g := ⟨_, rfl⟩
    rw [hGA] at HA ⊢
    have le_C : w.heap.size ≤ GC := by omega
    have le_A : w.heap.size ≤ GA := by omega
    have ne_A_C : GA ≠ GC := by omega
    have ne_C_A : GC ≠ GA := by omega
    clear hGA
    obtain ⟨⟨qC0, qC1, qC2, qC3, qC4, qC5, qC6, qC7, qC8⟩, ⟨fC0, fC1, fC2, fC3, fC4, fC5, fC6, fC7, fC8⟩, zC⟩ := HC.out
    obtain ⟨⟨qA0, qA1, qA2⟩, ⟨fA0, fA1, fA2⟩, zA⟩ := HA.out
    go_wp2_with fail
    go_at_call 58
    refine (HC0.out _).mono ?_
    rintro e w1 ⟨rfl, hb⟩
    clear qC0 fC0 qC1 fC1 qC2 fC2 qC3 fC3 qC4 fC4 qC5 fC5 qC6 fC6 qC7 fC7 qC8 fC8 zC qA0 fA0 qA1 fA1 qA2 fA2 zA
    have HC := Lib.hid (HC.out.below hb)
    have HA := Lib.hid (HA.out.below hb)
    have HB := Lib.hid (below_after hb HB.out)
    clear hb
    obtain ⟨⟨qC0, qC1, qC2, qC3, qC4, qC5, qC6, qC7, qC8⟩, ⟨fC0, fC1, fC2, fC3, fC4, fC5, fC6, fC7, fC8⟩, zC⟩ := HC.out
    obtain ⟨⟨qA0, qA1, qA2⟩, ⟨fA0, fA1, fA2⟩, zA⟩ := HA.out
    go_wp2_with fail
    go_at_call 59
    refine (HCO.out _).mono ?_
    rintro e w2 ⟨rfl, hb⟩
    clear qC0 fC0 qC1 fC1 qC2 fC2 qC3 fC3 qC4 fC4 qC5 fC5 qC6 fC6 qC7 fC7 qC8 fC8 zC qA0 fA0 qA1 fA1 qA2 fA2 zA
    have HC := Lib.hid (HC.out.below hb)
    have HA := Lib.hid (HA.out.below hb)
    have HB := Lib.hid (below_after hb HB.out)
    clear hb
    obtain ⟨⟨qC0, qC1, qC2, qC3, qC4, qC5, qC6, qC7, qC8⟩, ⟨fC0, fC1, fC2, fC3, fC4, fC5, fC6, fC7, fC8⟩, zC⟩ := HC.out
    obtain ⟨⟨qA0, qA1, qA2⟩, ⟨fA0, fA1, fA2⟩, zA⟩ := HA.out
    go_upto_region 5 with fail
    obtain ⟨GW, hGW⟩ : ∃ g, w2.heap.size = g := ⟨_, rfl⟩
    obtain ⟨w3, hw3⟩ : ∃ wx, wx = w2.alloc (.cells #[.int .i64 X, .int .i64 Y, .int .i64 Z] 26) := ⟨_, rfl⟩
    rw [← hw3, hGW]
    have HW : Hid (Bk3 w3 GW X Y Z) := by rw [hw3, ← hGW]; exact bk3_new w2 X Y Z _
    have le_W : w.heap.size ≤ GW := by rw [← hGW]; exact HB.out.size
    have ne_W_C : GW ≠ GC := by have := HC.out.2.2; omega
    have ne_C_W : GC ≠ GW := Ne.symm ne_W_C
    have ne_W_A : GW ≠ GA := by have := HA.out.2.2; omega
    have ne_A_W : GA ≠ GW := Ne.symm ne_W_A
    clear qC0 fC0 qC1 fC1 qC2 fC2 qC3 fC3 qC4 fC4 qC5 fC5 qC6 fC6 qC7 fC7 qC8 fC8 zC qA0 fA0 qA1 fA1 qA2 fA2 zA
    have HC := Lib.hid (HC.out.below ((Below.refl _ _).alloc (Nat.le_refl _) (.cells #[.int .i64 X, .int .i64 Y, .int .i64 Z] 26)))
    have HA := Lib.hid (HA.out.below ((Below.refl _ _).alloc (Nat.le_refl _) (.cells #[.int .i64 X, .int .i64 Y, .int .i64 Z] 26)))
    have HB := Lib.hid (Below.alloc HB.out HB.out.size (.cells #[.int .i64 X, .int .i64 Y, .int .i64 Z] 26))
    rw [← hw3] at HC HA HB
    clear hw3 hGW
    obtain ⟨⟨qC0, qC1, qC2, qC3, qC4, qC5, qC6, qC7, qC8⟩, ⟨fC0, fC1, fC2, fC3, fC4, fC5, fC6, fC7, fC8⟩, zC⟩ := HC.out
    obtain ⟨⟨qA0, qA1, qA2⟩, ⟨fA0, fA1, fA2⟩, zA⟩ := HA.out
    obtain ⟨⟨qW0, qW1, qW2⟩, ⟨fW0, fW1, fW2⟩, zW⟩ := HW.out
    go_wp2_with fail
    refine bodyPost_ret (v := .tuple #[.slice (some ⟨w3.heap.size, 0, none⟩) 3 3, .int .i64 0]) (by simp (maxDischargeDepth := 8) [results, Tryd.results24, go_sem, *]) rfl ?_
    have hb := HB.out
    rw [HE.out]
    exact ⟨_, rfl, OwnE.lit3 _ _ _ _ _ hb.size, by (repeat' (first | (with_reducible exact Below.refl _ _) | (with_reducible refine Below.alloc ?_ ?_ _) | (with_reducible refine Below.setCell ?_ ?_ _) | (with_reducible refine Below.drew ?_) | (with_reducible refine below_drewN ?_ _) | (with_reducible assumption) | (with_reducible refine below_after (by with_reducible assumption) ?_) | go_size))⟩
set_option maxHeartbeats 800000 in
theorem spec_IsInCone_any (c0 c1 c2 c3 c4 c5 c6 c7 c8 a0 a1 a2 : Int) (w : World) :
    Calls Tryd.prog 27 #[.agg #[.int .i64 c0, .int .i64 c1, .int .i64 c2, .int .i64 c3, .int .i64 c4, .int .i64 c5, .int .i64 c6, .int .i64 c7, .int .i64 c8], .agg #[.int .i64 a0, .int .i64 a1, .int .i64 a2]] w fun e w' => e = .returned (.tuple #[.bool (icV c0 c1 c2 c3 c4 c5 c6 c7 c8 a0 a1 a2), .int .i64 (bok (ciO c0 c1 c2 c3 c4 c5 c6 c7 c8 a0 a1 a2))]) ∧ Below w.heap.size w w' := by
  cases k0 : ciO c0 c1 c2 c3 c4 c5 c6 c7 c8 a0 a1 a2
  · have HC0 : Hid (∀ w, Calls Tryd.prog 58 #[.agg #[.int .i64 c0, .int .i64 c1, .int .i64 c2, .int .i64 c3, .int .i64 c4, .int .i64 c5, .int .i64 c6, .int .i64 c7, .int .i64 c8], .agg #[.int .i64 a0, .int .i64 a1, .int .i64 a2]] w fun e w' => e = .returned (.int .i64 1) ∧ Below w.heap.size w w') := fun w => by have := l08Code_any c0 c1 c2 c3 c4 c5 c6 c7 c8 a0 a1 a2 w; rwa [k0] at this
    have HK0 := Lib.hid k0
    clear k0
    obtain ⟨GC, hG⟩ : ∃ G, w.heap.size = G := ⟨_, rfl⟩
    have HG := Lib.hid hG
    go_enter Tryd.func27, Tryd.ntmps27
    go_upto_region 1 with fail
    obtain ⟨w0, hw0⟩ : ∃ w0, w0 = ((w.alloc (.cells #[.int .i64 c0, .int .i64 c1, .int .i64 c2, .int .i64 c3, .int .i64 c4, .int .i64 c5, .int .i64 c6, .int .i64 c7, .int .i64 c8] 39)).alloc (.cells #[.int .i64 a0, .int .i64 a1, .int .i64 a2] 26)) := ⟨_, rfl⟩
    rw [← hw0]
    have HC : Hid (Bk9 w0 GC c0 c1 c2 c3 c4 c5 c6 c7 c8) := by
      have h := (bk9_new w c0 c1 c2 c3 c4 c5 c6 c7 c8 39).below (W' := ((w.alloc (.cells #[.int .i64 c0, .int .i64 c1, .int .i64 c2, .int .i64 c3, .int .i64 c4, .int .i64 c5, .int .i64 c6, .int .i64 c7, .int .i64 c8] 39)).alloc (.cells #[.int .i64 a0, .int .i64 a1, .int .i64 a2] 26))) (by (repeat' (first | (with_reducible exact Below.refl _ _) | (with_reducible refine Below.alloc ?_ ?_ _) | (with_reducible refine Below.setCell ?_ ?_ _) | (with_reducible refine Below.drew ?_) | (with_reducible refine below_drewN ?_ _) | (with_reducible assumption) | (with_reducible refine below_after (by with_reducible assumption) ?_) | go_size)))
      (try simp only [World.size_alloc] at h)
      rw [hG] at h
      rw [hw0]; exact h
    have HA : Hid (Bk3 w0 (GC + 1) a0 a1 a2) := by
      have h := (bk3_new (w.alloc (.cells #[.int .i64 c0, .int .i64 c1, .int .i64 c2, .int .i64 c3, .int .i64 c4, .int .i64 c5, .int .i64 c6, .int .i64 c7, .int .i64 c8] 39)) a0 a1 a2 26).below (W' := ((w.alloc (.cells #[.int .i64 c0, .int .i64 c1, .int .i64 c2, .int .i64 c3, .int .i64 c4, .int .i64 c5, .int .i64 c6, .int .i64 c7, .int .i64 c8] 39)).alloc (.cells #[.int .i64 a0, .int .i64 a1, .int .i64 a2] 26))) (by (repeat' (first | (with_reducible exact Below.refl _ _) | (with_reducible refine Below.alloc ?_ ?_ _) | (with_reducible refine Below.setCell ?_ ?_ _) | (with_reducible refine Below.drew ?_) | (with_reducible refine below_drewN ?_ _) | (with_reducible assumption) | (with_reducible refine below_after (by with_reducible assumption) ?_) | go_size)))
      (try simp only [World.size_alloc] at h)
      rw [hG] at h
      rw [hw0]; exact h
    have HB : Hid (Below w.heap.size w w0) := by show Below w.heap.size w w0; rw [hw0]; (repeat' (first | (with_reducible exact Below.refl _ _) | (with_reducible refine Below.alloc ?_ ?_ _) | (with_reducible refine Below.setCell ?_ ?_ _) | (with_reducible refine Below.drew ?_) | (with_reducible refine below_drewN ?_ _) | (with_reducible assumption) | (with_reducible refine below_after (by with_reducible assumption) ?_) | go_size))
    clear hw0
    obtain ⟨GA, hGA⟩ : ∃ g, GC + 1 = g := ⟨_, rfl⟩
    rw [hGA] at HA ⊢
    have le_C : w.heap.size ≤ GC := by omega
    have le_A : w.heap.size ≤ GA := by omega
    have ne_A_C : GA ≠ GC := by omega
    have ne_C_A : GC ≠ GA := by omega
    clear hGA
    obtain ⟨⟨qC0, qC1, qC2, qC3, qC4, qC5, qC6, qC7, qC8⟩, ⟨fC0, fC1, fC2, fC3, fC4, fC5, fC6, fC7, fC8⟩, zC⟩ := HC.out
    obtain ⟨⟨qA0, qA1, qA2⟩, ⟨fA0, fA1, fA2⟩, zA⟩ := HA.out
    go_wp2_with fail
    go_at_call 58
    refine (HC0.out _).mono ?_
    rintro e w1 ⟨rfl, hb⟩
    clear qC0 fC0 qC1 fC1 qC2 fC2 qC3 fC3 qC4 fC4 qC5 fC5 qC6 fC6 qC7 fC7 qC8 fC8 zC qA0 fA0 qA1 fA1 qA2 fA2 zA
    have HC := Lib.hid (HC.out.below hb)
    have HA := Lib.hid (HA.out.below hb)
    have HB := Lib.hid (below_after hb HB.out)
    clear hb
    obtain ⟨⟨qC0, qC1, qC2, qC3, qC4, qC5, qC6, qC7, qC8⟩, ⟨fC0, fC1, fC2, fC3, fC4, fC5, fC6, fC7, fC8⟩, zC⟩ := HC.out
    obtain ⟨⟨qA0, qA1, qA2⟩, ⟨fA0, fA1, fA2⟩, zA⟩ := HA.out
    go_wp2_with fail
    refine bodyPost_ret (v := .tuple #[.bool false, .int .i64 1]) (by simp (maxDischargeDepth := 8) [results, Tryd.results27, go_sem, *]) rfl ?_
    have hb := HB.out
    exact ⟨by simp [icV, bok, HK0.out], by (repeat' (first | (with_reducible exact Below.refl _ _) | (with_reducible refine Below.alloc ?_ ?_ _) | (with_reducible refine Below.setCell ?_ ?_ _) | (with_reducible refine Below.drew ?_) | (with_reducible refine below_drewN ?_ _) | (with_reducible assumption) | (with_reducible refine below_after (by with_reducible assumption) ?_) | go_size))⟩
  · have HC0 : Hid (∀ w, Calls Tryd.prog 58 #[.agg #[.int .i64 c0, .int .i64 c1, .int .i64 c2, .int .i64 c3, .int .i64 c4, .int .i64 c5, .int .i64 c6, .int .i64 c7, .int .i64 c8], .agg #[.int .i64 a0, .int .i64 a1, .int .i64 a2]] w fun e w' => e = .returned (.int .i64 0) ∧ Below w.heap.size w w') := fun w => by have := l08Code_any c0 c1 c2 c3 c4 c5 c6 c7 c8 a0 a1 a2 w; rwa [k0] at this
    have HKO := Lib.hid k0
    have HK0 : Hid (isCo c0 c1 c2 c3 c4 c5 c6 c7 c8 = true) := by have := k0; simp only [ciO, Bool.and_eq_true] at this; exact this.1
    have HK1 : Hid (isSp a0 a1 a2 = true) := by have := k0; simp only [ciO, Bool.and_eq_true] at this; exact this.2
    clear k0
    obtain ⟨GC, hG⟩ : ∃ G, w.heap.size = G := ⟨_, rfl⟩
    have HG := Lib.hid hG
    go_enter Tryd.func27, Tryd.ntmps27
    go_upto_region 1 with fail
    obtain ⟨w0, hw0⟩ : ∃ w0, w0 = ((w.alloc (.cells #[.int .i64 c0, .int .i64 c1, .int .i64 c2, .int .i64 c3, .int .i64 c4, .int .i64 c5, .int .i64 c6, .int .i64 c7, .int .i64 c8] 39)).alloc (.cells #[.int .i64 a0, .int .i64 a1, .int .i64 a2] 26)) := ⟨_, rfl⟩
    rw [← hw0]
    have HC : Hid (Bk9 w0 GC c0 c1 c2 c3 c4 c5 c6 c7 c8) := by
      have h := (bk9_new w c0 c1 c2 c3 c4 c5 c6 c7 c8 39).below (W' := ((w.alloc (.cells #[.int .i64 c0, .int .i64 c1, .int .i64 c2, .int .i64 c3, .int .i64 c4, .int .i64 c5, .int .i64 c6, .int .i64 c7, .int .i64 c8] 39)).alloc (.cells #[.int .i64 a0, .int .i64 a1, .int .i64 a2] 26))) (by (repeat' (first | (with_reducible exact Below.refl _ _) | (with_reducible refine Below.alloc ?_ ?_ _) | (with_reducible refine Below.setCell ?_ ?_ _) | (with_reducible refine Below.drew ?_) | (with_reducible refine below_drewN ?_ _) | (with_reducible assumption) | (with_reducible refine below_after (by with_reducible assumption) ?_) | go_size)))
      (try simp only [World.size_alloc] at h)
      rw [hG] at h
      rw [hw0]; exact h
    have HA : Hid (Bk3 w0 (GC + 1) a0 a1 a2) := by
      have h := (bk3_new (w.alloc (.cells #[.int .i64 c0, .int .i64 c1, .int .i64 c2, .int .i64 c3, .int .i64 c4, .int .i64 c5, .int .i64 c6, .int .i64 c7, .int .i64 c8] 39)) a0 a1 a2 26).below (W' := ((w.alloc (.cells #[.int .i64 c0, .int .i64 c1, .int .i64 c2, .int .i64 c3, .int .i64 c4, .int .i64 c5, .int .i64 c6, .int .i64 c7, .int .i64 c8] 39)).alloc (.cells #[.int .i64 a0, .int .i64 a1, .int .i64 a2] 26))) (by (repeat' (first | (with_reducible exact Below.refl _ _) | (with_reducible refine Below.alloc ?_ ?_ _) | (with_reducible refine Below.setCell ?_ ?_ _) | (with_reducible refine Below.drew ?_) | (with_reducible refine below_drewN ?_ _) | (with_reducible assumption) | (with_reducible refine below_after (by with_reducible assumption) ?_) | go_size)))
      (try simp only [World.size_alloc] at h)
      rw [hG] at h
      rw [hw0]; exact h
    have HB : Hid (Below w.heap.size w w0) := by show Below w.heap.size w w0; rw [hw0]; (repeat' (first | (with_reducible exact Below.refl _ _) | (with_reducible refine Below.alloc ?_ ?_ _) | (with_reducible refine Below.setCell ?_ ?_ _) | (with_reducible refine Below.drew ?_) | (with_reducible refine below_drewN ?_ _) | (with_reducible assumption) | (with_reducible refine below_after (by with_reducible assumption) ?_) | go_size))
    clear hw0
    obtain ⟨GA, hGA⟩ : ∃ g, GC + 1 = g := ⟨_, rfl⟩
    rw [hGA] at HA ⊢
    have le_C : w.heap.size ≤ GC := by omega
    have le_A : w.heap.size ≤ GA := by omega
    have ne_A_C : GA ≠ GC := by omega
    have ne_C_A : GC ≠ GA := by omega
    clear hGA
    obtain ⟨⟨qC0, qC1, qC2, qC3, qC4, qC5, qC6, qC7, qC8⟩, ⟨fC0, fC1, fC2, fC3, fC4, fC5, fC6, fC7, fC8⟩, zC⟩ := HC.out
    obtain ⟨⟨qA0, qA1, qA2⟩, ⟨fA0, fA1, fA2⟩, zA⟩ := HA.out
    go_wp2_with fail
    go_at_call 58
    refine (HC0.out _).mono ?_
    rintro e w1 ⟨rfl, hb⟩
    clear qC0 fC0 qC1 fC1 qC2 fC2 qC3 fC3 qC4 fC4 qC5 fC5 qC6 fC6 qC7 fC7 qC8 fC8 zC qA0 fA0 qA1 fA1 qA2 fA2 zA
    have HC := Lib.hid (HC.out.below hb)
    have HA := Lib.hid (HA.out.below hb)
    have HB := Lib.hid (below_after hb HB.out)
    clear hb
    obtain ⟨⟨qC0, qC1, qC2, qC3, qC4, qC5, qC6, qC7, qC8⟩, ⟨fC0, fC1, fC2, fC3, fC4, fC5, fC6, fC7, fC8⟩, zC⟩ := HC.out
    obtain ⟨⟨qA0, qA1, qA2⟩, ⟨fA0, fA1, fA2⟩, zA⟩ := HA.out
    go_wp2_with fail
    go_at_call 64
    refine (l08Inside_any _ _ _ _ _ _ _ _ _ _ _ _ _ ((isCo_parts HK0.out).1.up (by omega)) ((isCo_parts HK0.out).2.1.up (by omega)) ((isCo_parts HK0.out).2.2.1.up (by omega)) ((isSp_W3 HK1.out).up (by omega))).mono ?_
    rintro e w2 ⟨rfl, hb⟩
    clear qC0 fC0 qC1 fC1 qC2 fC2 qC3 fC3 qC4 fC4 qC5 fC5 qC6 fC6 qC7 fC7 qC8 fC8 zC qA0 fA0 qA1 fA1 qA2 fA2 zA
    have HC := Lib.hid (HC.out.below hb)
    have HA := Lib.hid (HA.out.below hb)
    have HB := Lib.hid (below_after hb HB.out)
    clear hb
    obtain ⟨⟨qC0, qC1, qC2, qC3, qC4, qC5, qC6, qC7, qC8⟩, ⟨fC0, fC1, fC2, fC3, fC4, fC5, fC6, fC7, fC8⟩, zC⟩ := HC.out
    obtain ⟨⟨qA0, qA1, qA2⟩, ⟨fA0, fA1, fA2⟩, zA⟩ := HA.out
    go_wp2_with fail
    refine bodyPost_ret (v := .tuple #[.bool (inV (co0 c0 c1 c2 c3 c4 c5 c6 c7 c8 a0 a1 a2) (co1 c0 c1 c2 c3 c4 c5 c6 c7 c8 a0 a1 a2) (co2 c0 c1 c2 c3 c4 c5 c6 c7 c8 a0 a1 a2)), .int .i64 0]) (by simp (maxDischargeDepth := 8) [results, Tryd.results27, go_sem, *]) rfl ?_
    have hb := HB.out
    exact ⟨by simp [icV, bok, HKO.out], by (repeat' (first | (with_reducible exact Below.refl _ _) | (with_reducible refine Below.alloc ?_ ?_ _) | (with_reducible refine Below.setCell ?_ ?_ _) | (with_reducible refine Below.drew ?_) | (with_reducible refine below_drewN ?_ _) | (with_reducible assumption) | (with_reducible refine below_after (by with_reducible assumption) ?_) | go_size))⟩
set_option maxHeartbeats 800000 in
theorem spec_IsRegularCone_any (c0 c1 c2 c3 c4 c5 c6 c7 c8 : Int) (w : World) :
    Calls Tryd.prog 29 #[.agg #[.int .i64 c0, .int .i64 c1, .int .i64 c2, .int .i64 c3, .int .i64 c4, .int .i64 c5, .int .i64 c6, .int .i64 c7, .int .i64 c8]] w fun e w' => e = .returned (.tuple #[.bool (rcV c0 c1 c2 c3 c4 c5 c6 c7 c8), .int .i64 (bok (isCo c0 c1 c2 c3 c4 c5 c6 c7 c8))]) ∧ Below w.heap.size w w' := by
  cases k0 : isCo c0 c1 c2 c3 c4 c5 c6 c7 c8
  · skip
    have HK0 := Lib.hid k0
    have HS0 : Hid (∀ w, Calls Tryd.prog 68 #[.agg #[.int .i64 c0, .int .i64 c1, .int .i64 c2, .int .i64 c3, .int .i64 c4, .int .i64 c5, .int .i64 c6, .int .i64 c7, .int .i64 c8]] w fun e w' => e = .returned (.bool false) ∧ Below w.heap.size w w') := fun w => by have := l08Is_any c0 c1 c2 c3 c4 c5 c6 c7 c8 w; rwa [k0] at this
    clear k0
    obtain ⟨GC, hG⟩ : ∃ G, w.heap.size = G := ⟨_, rfl⟩
    have HG := Lib.hid hG
    go_enter Tryd.func29, Tryd.ntmps29
    go_upto_region 1 with fail
    obtain ⟨w0, hw0⟩ : ∃ w0, w0 = (w.alloc (.cells #[.int .i64 c0, .int .i64 c1, .int .i64 c2, .int .i64 c3, .int .i64 c4, .int .i64 c5, .int .i64 c6, .int .i64 c7, .int .i64 c8] 39)) := ⟨_, rfl⟩
    rw [← hw0]
    have HC : Hid (Bk9 w0 GC c0 c1 c2 c3 c4 c5 c6 c7 c8) := by
      have h := (bk9_new w c0 c1 c2 c3 c4 c5 c6 c7 c8 39).below (W' := (w.alloc (.cells #[.int .i64 c0, .int .i64 c1, .int .i64 c2, .int .i64 c3, .int .i64 c4, .int .i64 c5, .int .i64 c6, .int .i64 c7, .int .i64 c8] 39))) (by (repeat' (first | (with_reducible exact Below.refl _ _) | (with_reducible refine Below.alloc ?_ ?_ _) | (with_reducible refine Below.setCell ?_ ?_ _) | (with_reducible refine Below.drew ?_) | (with_reducible refine below_drewN ?_ _) | (with_reducible assumption) | (with_reducible refine below_after (by with_reducible assumption) ?_) | go_size)))
      (try simp only [World.size_alloc] at h)
      rw [hG] at h
      rw [hw0]; exact h
    have HB : Hid (Below w.heap.size w w0) := by show Below w.heap.size w w0; rw [hw0]; (repeat' (first | (with_reducible exact Below.refl _ _) | (with_reducible refine Below.alloc ?_ ?_ _) | (with_reducible refine Below.setCell ?_ ?_ _) | (with_reducible refine Below.drew ?_) | (with_reducible refine below_drewN ?_ _) | (with_reducible assumption) | (with_reducible refine below_after (by with_reducible assumption) ?_) | go_size))
    clear hw0
    have le_C : w.heap.size ≤ GC := by omega
    obtain ⟨⟨qC0, qC1, qC2, qC3, qC4, qC5, qC6, qC7, qC8⟩, ⟨fC0, fC1, fC2, fC3, fC4, fC5, fC6, fC7, fC8⟩, zC⟩ := HC.out
    go_wp2_with fail
    go_at_call 68
    refine (HS0.out _).mono ?_
    rintro e w1 ⟨rfl, hb⟩
    clear qC0 fC0 qC1 fC1 qC2 fC2 qC3 fC3 qC4 fC4 qC5 fC5 qC6 fC6 qC7 fC7 qC8 fC8 zC
    have HC := Lib.hid (HC.out.below hb)
    have HB := Lib.hid (below_after hb HB.out)
    clear hb
    obtain ⟨⟨qC0, qC1, qC2, qC3, qC4, qC5, qC6, qC7, qC8⟩, ⟨fC0, fC1, fC2, fC3, fC4, fC5, fC6, fC7, fC8⟩, zC⟩ := HC.out
    go_wp2_with fail
    refine bodyPost_ret (v := .tuple #[.bool false, .int .i64 1]) (by simp (maxDischargeDepth := 8) [results, Tryd.results29, go_sem, *]) rfl ?_
    have hb := HB.out
    exact ⟨by simp [rcV, bok, HK0.out], by (repeat' (first | (with_reducible exact Below.refl _ _) | (with_reducible refine Below.alloc ?_ ?_ _) | (with_reducible refine Below.setCell ?_ ?_ _) | (with_reducible refine Below.drew ?_) | (with_reducible refine below_drewN ?_ _) | (with_reducible assumption) | (with_reducible refine below_after (by with_reducible assumption) ?_) | go_size))⟩
  · skip
    have HK0 := Lib.hid k0
    have HS0 : Hid (∀ w, Calls Tryd.prog 68 #[.agg #[.int .i64 c0, .int .i64 c1, .int .i64 c2, .int .i64 c3, .int .i64 c4, .int .i64 c5, .int .i64 c6, .int .i64 c7, .int .i64 c8]] w fun e w' => e = .returned (.bool true) ∧ Below w.heap.size w w') := fun w => by have := l08Is_any c0 c1 c2 c3 c4 c5 c6 c7 c8 w; rwa [k0] at this
    clear k0
    obtain ⟨S, hS⟩ : ∃ S, absI (detV c0 c1 c2 c3 c4 c5 c6 c7 c8) = S := ⟨_, rfl⟩
    have HSZ : Hid (∀ w, Calls Tryd.prog 69 #[.agg #[.int .i64 c0, .int .i64 c1, .int .i64 c2, .int .i64 c3, .int .i64 c4, .int .i64 c5, .int .i64 c6, .int .i64 c7, .int .i64 c8]] w fun e w' => e = .returned (.int .i64 S) ∧ Below w.heap.size w w') := fun w => by have := l08Size_any c0 c1 c2 c3 c4 c5 c6 c7 c8 w ((isCo_parts HK0.out).1.up (by omega)) ((isCo_parts HK0.out).2.1.up (by omega)) ((isCo_parts HK0.out).2.2.1.up (by omega)); rwa [hS] at this
    by_cases hz : S = 1
    · subst hz
      have HV : Hid (rcV c0 c1 c2 c3 c4 c5 c6 c7 c8 = true) := by show _ = _; simp [rcV, bok, HK0.out, hS]
      clear hS
      obtain ⟨GC, hG⟩ : ∃ G, w.heap.size = G := ⟨_, rfl⟩
      have HG := Lib.hid hG
      go_enter Tryd.func29, Tryd.ntmps29
      go_upto_region 1 with fail
      obtain ⟨w0, hw0⟩ : ∃ w0, w0 = (w.alloc (.cells #[.int .i64 c0, .int .i64 c1, .int .i64 c2, .int .i64 c3, .int .i64 c4, .int .i64 c5, .int .i64 c6, .int .i64 c7, .int .i64 c8] 39)) := ⟨_, rfl⟩
      rw [← hw0]
      have HC : Hid (Bk9 w0 GC c0 c1 c2 c3 c4 c5 c6 c7 c8) := by
        have h := (bk9_new w c0 c1 c2 c3 c4 c5 c6 c7 c8 39).below (W' := (w.alloc (.cells #[.int .i64 c0, .int .i64 c1, .int .i64 c2, .int .i64 c3, .int .i64 c4, .int .i64 c5, .int .i64 c6, .int .i64 c7, .int .i64 c8] 39))) (by (repeat' (first | (with_reducible exact Below.refl _ _) | (with_reducible refine Below.alloc ?_ ?_ _) | (with_reducible refine Below.setCell ?_ ?_ _) | (with_reducible refine Below.drew ?_) | (with_reducible refine below_drewN ?_ _) | (with_reducible assumption) | (with_reducible refine below_after (by with_reducible assumption) ?_) | go_size)))
        (try simp only [World.size_alloc] at h)
        rw [hG] at h
        rw [hw0]; exact h
      have HB : Hid (Below w.heap.size w w0) := by show Below w.heap.size w w0; rw [hw0]; (repeat' (first | (with_reducible exact Below.refl _ _) | (with_reducible refine Below.alloc ?_ ?_ _) | (with_reducible refine Below.setCell ?_ ?_ _) | (with_reducible refine Below.drew ?_) | (with_reducible refine below_drewN ?_ _) | (with_reducible assumption) | (with_reducible refine below_after (by with_reducible assumption) ?_) | go_size))
      clear hw0
      have le_C : w.heap.size ≤ GC := by omega
      obtain ⟨⟨qC0, qC1, qC2, qC3, qC4, qC5, qC6, qC7, qC8⟩, ⟨fC0, fC1, fC2, fC3, fC4, fC5, fC6, fC7, fC8⟩, zC⟩ := HC.out
      go_wp2_with fail
      go_at_call 68
      refine (HS0.out _).mono ?_
      rintro e w1 ⟨rfl, hb⟩
      clear qC0 fC0 qC1 fC1 qC2 fC2 qC3 fC3 qC4 fC4 qC5 fC5 qC6 fC6 qC7 fC7 qC8 fC8 zC
      have HC := Lib.hid (HC.out.below hb)
      have HB := Lib.hid (below_after hb HB.out)
      clear hb
      obtain ⟨⟨qC0, qC1, qC2, qC3, qC4, qC5, qC6, qC7, qC8⟩, ⟨fC0, fC1, fC2, fC3, fC4, fC5, fC6, fC7, fC8⟩, zC⟩ := HC.out
      go_wp2_with fail
      go_at_call 69
      refine (HSZ.out _).mono ?_
      rintro e w2 ⟨rfl, hb⟩
      clear qC0 fC0 qC1 fC1 qC2 fC2 qC3 fC3 qC4 fC4 qC5 fC5 qC6 fC6 qC7 fC7 qC8 fC8 zC
      have HC := Lib.hid (HC.out.below hb)
      have HB := Lib.hid (below_after hb HB.out)
      clear hb
      obtain ⟨⟨qC0, qC1, qC2, qC3, qC4, qC5, qC6, qC7, qC8⟩, ⟨fC0, fC1, fC2, fC3, fC4, fC5, fC6, fC7, fC8⟩, zC⟩ := HC.out
      go_wp2_with fail
      refine bodyPost_ret (v := .tuple #[.bool true, .int .i64 0]) (by simp (maxDischargeDepth := 8) [results, Tryd.results29, go_sem, *]) rfl ?_
      have hb := HB.out
      exact ⟨by rw [HV.out]; rfl, by (repeat' (first | (with_reducible exact Below.refl _ _) | (with_reducible refine Below.alloc ?_ ?_ _) | (with_reducible refine Below.setCell ?_ ?_ _) | (with_reducible refine Below.drew ?_) | (with_reducible refine below_drewN ?_ _) | (with_reducible assumption) | (with_reducible refine below_after (by with_reducible assumption) ?_) | go_size))⟩
    · have HV : Hid (rcV c0 c1 c2 c3 c4 c5 c6 c7 c8 = false) := by show _ = _; simp [rcV, bok, HK0.out, hS, hz]
      have hz2 : (S == 1) = false := by simpa using hz
      clear hS
      obtain ⟨GC, hG⟩ : ∃ G, w.heap.size = G := ⟨_, rfl⟩
      have HG := Lib.hid hG
      go_enter Tryd.func29, Tryd.ntmps29
      go_upto_region 1 with fail
      obtain ⟨w0, hw0⟩ : ∃ w0, w0 = (w.alloc (.cells #[.int .i64 c0, .int .i64 c1, .int .i64 c2, .int .i64 c3, .int .i64 c4, .int .i64 c5, .int .i64 c6, .int .i64 c7, .int .i64 c8] 39)) := ⟨_, rfl⟩
      rw [← hw0]
      have HC : Hid (Bk9 w0 GC c0 c1 c2 c3 c4 c5 c6 c7 c8) := by
        have h := (bk9_new w c0 c1 c2 c3 c4 c5 c6 c7 c8 39).below (W' := (w.alloc (.cells #[.int .i64 c0, .int .i64 c1, .int .i64 c2, .int .i64 c3, .int .i64 c4, .int .i64 c5, .int .i64 c6, .int .i64 c7, .int .i64 c8] 39))) (by (repeat' (first | (with_reducible exact Below.refl _ _) | (with_reducible refine Below.alloc ?_ ?_ _) | (with_reducible refine Below.setCell ?_ ?_ _) | (with_reducible refine Below.drew ?_) | (with_reducible refine below_drewN ?_ _) | (with_reducible assumption) | (with_reducible refine below_after (by with_reducible assumption) ?_) | go_size)))
        (try simp only [World.size_alloc] at h)
        rw [hG] at h
        rw [hw0]; exact h
      have HB : Hid (Below w.heap.size w w0) := by show Below w.heap.size w w0; rw [hw0]; (repeat' (first | (with_reducible exact Below.refl _ _) | (with_reducible refine Below.alloc ?_ ?_ _) | (with_reducible refine Below.setCell ?_ ?_ _) | (with_reducible refine Below.drew ?_) | (with_reducible refine below_drewN ?_ _) | (with_reducible assumption) | (with_reducible refine below_after (by with_reducible assumption) ?_) | go_size))
      clear hw0
      have le_C : w.heap.size ≤ GC := by omega
      obtain ⟨⟨qC0, qC1, qC2, qC3, qC4, qC5, qC6, qC7, qC8⟩, ⟨fC0, fC1, fC2, fC3, fC4, fC5, fC6, fC7, fC8⟩, zC⟩ := HC.out
      go_wp2_with fail
      go_at_call 68
      refine (HS0.out _).mono ?_
      rintro e w1 ⟨rfl, hb⟩
      clear qC0 fC0 qC1 fC1 qC2 fC2 qC3 fC3 qC4 fC4 qC5 fC5 qC6 fC6 qC7 fC7 qC8 fC8 zC
      have HC := Lib.hid (HC.out.below hb)
      have HB := Lib.hid (below_after hb HB.out)
      clear hb
      obtain ⟨⟨qC0, qC1, qC2, qC3, qC4, qC5, qC6, qC7, qC8⟩, ⟨fC0, fC1, fC2, fC3, fC4, fC5, fC6, fC7, fC8⟩, zC⟩ := HC.out
      go_wp2_with fail
      go_at_call 69
      refine (HSZ.out _).mono ?_
      rintro e w2 ⟨rfl, hb⟩
      clear qC0 fC0 qC1 fC1 qC2 fC2 qC3 fC3 qC4 fC4 qC5 fC5 qC6 fC6 qC7 fC7 qC8 fC8 zC
      have HC := Lib.hid (HC.out.below hb)
      have HB := Lib.hid (below_after hb HB.out)
      clear hb
      obtain ⟨⟨qC0, qC1, qC2, qC3, qC4, qC5, qC6, qC7, qC8⟩, ⟨fC0, fC1, fC2, fC3, fC4, fC5, fC6, fC7, fC8⟩, zC⟩ := HC.out
      go_wp2_with fail
      refine bodyPost_ret (v := .tuple #[.bool false, .int .i64 0]) (by simp (maxDischargeDepth := 8) [results, Tryd.results29, go_sem, *]) rfl ?_
      have hb := HB.out
      exact ⟨by rw [HV.out]; rfl, by (repeat' (first | (with_reducible exact Below.refl _ _) | (with_reducible refine Below.alloc ?_ ?_ _) | (with_reducible refine Below.setCell ?_ ?_ _) | (with_reducible refine Below.drew ?_) | (with_reducible refine below_drewN ?_ _) | (with_reducible assumption) | (with_reducible refine below_after (by with_reducible assumption) ?_) | go_size))⟩
end Go.Proofs.YtjjblgmokmalaaaDoor
