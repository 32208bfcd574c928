/-
  Equivalent forms, in the program and in the model (own work).
-/
import Derived.Test.YtohnmogejidpdaaFoE
namespace Go.Proofs.Ytohnmogejidpdaa
open Go.ChangeShapes Go.WideShapes Go.ChangeAt Go.RowKit
set_option linter.unusedVariables false
set_option linter.unusedSimpArgs false
set_option maxRecDepth 100000

def aqV (a b c d e f : Int) : Bool := isFm a b c && isFm d e f && decide (frT (d, e, f) ∈ cyT (frT (a, b, c)))
def aqC (a b c d e f : Int) : Int := fo1 (isFm a b c && isFm d e f)
theorem headT {B : Nat} {W : World} {g n vc : Nat} {l : List Tr} {x : Tr} (h : OwnT B W (.slice (some ⟨g, 0, none⟩) n vc) l) (hl : l[0]? = some x) : W.cell? ⟨g, 0, none⟩ = some (.int .i64 x.1) ∧ W.cell? ⟨g, 1, none⟩ = some (.int .i64 x.2.1) ∧ W.cell? ⟨g, 2, none⟩ = some (.int .i64 x.2.2) := by
  obtain ⟨a, cap, e, f⟩ := viewOwnFo h
  have hp : 0 < l.length := (List.getElem?_eq_some_iff.1 hl).1
  obtain ⟨g', e2, _, _, hc, _⟩ := f hp
  rw [e2] at e
  injection e with e3
  injection e3 with e4
  injection e4 with e5
  subst e5
  obtain ⟨p0, p1, p2⟩ := flT_at l 0 x hl
  have h0 := hc 0 (by omega)
  have h1 := hc 1 (by omega)
  have h2 := hc 2 (by omega)
  exact ⟨h0.trans (by rw [← p0]), h1.trans (by rw [← p1]), h2.trans (by rw [← p2])⟩
theorem far_disc {x y : Tr} (hx : fmT x = true) (hy : fmT y = true) (h : ¬ dT x = dT y) : decide (frT y ∈ cyT (frT x)) = false := by
  apply decide_eq_false
  intro hm
  obtain ⟨f1, f2, f3⟩ := frT_facts hx
  obtain ⟨g1, g2, g3⟩ := frT_facts hy
  have := (cyT_mem f1 f2 hm).2.2
  exact h (by rw [← f3, ← g3, this])
set_option maxHeartbeats 1600000 in
theorem impl_aq_no (a b c d e f : Int) (w : World) (hn : (isFm a b c && isFm d e f) = false) : Calls Try.prog 44 #[.agg #[.int .i64 a, .int .i64 b, .int .i64 c], .agg #[.int .i64 d, .int .i64 e, .int .i64 f]] w fun e1 w' => e1 = .returned (.tuple #[.bool (false), .int .i64 1]) ∧ Below w.heap.size w w' := by
  cases h0 : isFm a b c
  · clear hn
    obtain ⟨GX, hG⟩ : ∃ G, w.heap.size = G := ⟨_, rfl⟩
    have HG := Lib.hid hG
    go_enter Try.func44, Try.ntmps44
    go_upto_region 1 with fail
    obtain ⟨w0, hw0⟩ : ∃ w0, w0 = ((w.alloc (.cells #[.int .i64 a, .int .i64 b, .int .i64 c] 43)).alloc (.cells #[.int .i64 d, .int .i64 e, .int .i64 f] 43)) := ⟨_, rfl⟩
    rw [← hw0]
    have HX : Hid (Bk3 w0 GX a b c) := by
      have h := (bk3_new w a b c 43).below (W' := ((w.alloc (.cells #[.int .i64 a, .int .i64 b, .int .i64 c] 43)).alloc (.cells #[.int .i64 d, .int .i64 e, .int .i64 f] 43))) (by (repeat' (first | (with_reducible exact Below.refl _ _) | (with_reducible refine Below.alloc ?_ ?_ _) | (with_reducible refine Below.setCell ?_ ?_ _) | (with_reducible refine Below.drew ?_) | (with_reducible refine below_drewN ?_ _) | (with_reducible assumption) | (with_reducible refine below_after (by with_reducible assumption) ?_) | go_size)))
      (try simp only [World.size_alloc] at h)
      rw [hG] at h
      rw [hw0]; exact h
    have HY : Hid (Bk3 w0 (GX + 1) d e f) := by
      have h := (bk3_new (w.alloc (.cells #[.int .i64 a, .int .i64 b, .int .i64 c] 43)) d e f 43).below (W' := ((w.alloc (.cells #[.int .i64 a, .int .i64 b, .int .i64 c] 43)).alloc (.cells #[.int .i64 d, .int .i64 e, .int .i64 f] 43))) (by (repeat' (first | (with_reducible exact Below.refl _ _) | (with_reducible refine Below.alloc ?_ ?_ _) | (with_reducible refine Below.setCell ?_ ?_ _) | (with_reducible refine Below.drew ?_) | (with_reducible refine below_drewN ?_ _) | (with_reducible assumption) | (with_reducible refine below_after (by with_reducible assumption) ?_) | go_size)))
      (try simp only [World.size_alloc] at h)
      rw [hG] at h
      rw [hw0]; exact h
    have HB : Hid (Below w.heap.size w w0) := by show Below w.heap.size w w0; rw [hw0]; (repeat' (first | (with_reducible exact Below.refl _ _) | (with_reducible refine Below.alloc ?_ ?_ _) | (with_reducible refine Below.setCell ?_ ?_ _) | (with_reducible refine Below.drew ?_) | (with_reducible refine below_drewN ?_ _) | (with_reducible assumption) | (with_reducible refine below_after (by with_reducible assumption) ?_) | go_size))
    clear hw0
    obtain ⟨GY, hGY⟩ : ∃ g, GX + 1 = g := ⟨_, rfl⟩
    rw [hGY] at HY ⊢
    have le_X : w.heap.size ≤ GX := by omega
    have le_Y : w.heap.size ≤ GY := by omega
    have ne_Y_X : GY ≠ GX := by omega
    have ne_X_Y : GX ≠ GY := by omega
    clear hGY
    obtain ⟨⟨qX0, qX1, qX2⟩, ⟨fX0, fX1, fX2⟩, zX⟩ := HX.out
    obtain ⟨⟨qY0, qY1, qY2⟩, ⟨fY0, fY1, fY2⟩, zY⟩ := HY.out
    go_wp2_with fail
    go_at_call 30
    refine (impl_IsForm_any a b c _).mono ?_
    rintro e w1 ⟨rfl, hb⟩
    clear qX0 fX0 qX1 fX1 qX2 fX2 zX qY0 fY0 qY1 fY1 qY2 fY2 zY
    have HX := Lib.hid (HX.out.below hb)
    have HY := Lib.hid (HY.out.below hb)
    have HB := Lib.hid (below_after hb HB.out)
    clear hb
    obtain ⟨⟨qX0, qX1, qX2⟩, ⟨fX0, fX1, fX2⟩, zX⟩ := HX.out
    obtain ⟨⟨qY0, qY1, qY2⟩, ⟨fY0, fY1, fY2⟩, zY⟩ := HY.out
    go_wp2_with fail
    refine bodyPost_ret (v := .tuple #[.bool false, .int .i64 1]) (by simp (maxDischargeDepth := 8) [results, Try.results44, go_sem, *]) rfl ?_
    have hb := HB.out
    exact ⟨rfl, by (repeat' (first | (with_reducible exact Below.refl _ _) | (with_reducible refine Below.alloc ?_ ?_ _) | (with_reducible refine Below.setCell ?_ ?_ _) | (with_reducible refine Below.drew ?_) | (with_reducible refine below_drewN ?_ _) | (with_reducible assumption) | (with_reducible refine below_after (by with_reducible assumption) ?_) | go_size))⟩
  · have h1 : isFm d e f = false := by rw [h0, Bool.true_and] at hn; exact hn
    clear hn
    obtain ⟨GX, hG⟩ : ∃ G, w.heap.size = G := ⟨_, rfl⟩
    have HG := Lib.hid hG
    go_enter Try.func44, Try.ntmps44
    go_upto_region 1 with fail
    obtain ⟨w0, hw0⟩ : ∃ w0, w0 = ((w.alloc (.cells #[.int .i64 a, .int .i64 b, .int .i64 c] 43)).alloc (.cells #[.int .i64 d, .int .i64 e, .int .i64 f] 43)) := ⟨_, rfl⟩
    rw [← hw0]
    have HX : Hid (Bk3 w0 GX a b c) := by
      have h := (bk3_new w a b c 43).below (W' := ((w.alloc (.cells #[.int .i64 a, .int .i64 b, .int .i64 c] 43)).alloc (.cells #[.int .i64 d, .int .i64 e, .int .i64 f] 43))) (by (repeat' (first | (with_reducible exact Below.refl _ _) | (with_reducible refine Below.alloc ?_ ?_ _) | (with_reducible refine Below.setCell ?_ ?_ _) | (with_reducible refine Below.drew ?_) | (with_reducible refine below_drewN ?_ _) | (with_reducible assumption) | (with_reducible refine below_after (by with_reducible assumption) ?_) | go_size)))
      (try simp only [World.size_alloc] at h)
      rw [hG] at h
      rw [hw0]; exact h
    have HY : Hid (Bk3 w0 (GX + 1) d e f) := by
      have h := (bk3_new (w.alloc (.cells #[.int .i64 a, .int .i64 b, .int .i64 c] 43)) d e f 43).below (W' := ((w.alloc (.cells #[.int .i64 a, .int .i64 b, .int .i64 c] 43)).alloc (.cells #[.int .i64 d, .int .i64 e, .int .i64 f] 43))) (by (repeat' (first | (with_reducible exact Below.refl _ _) | (with_reducible refine Below.alloc ?_ ?_ _) | (with_reducible refine Below.setCell ?_ ?_ _) | (with_reducible refine Below.drew ?_) | (with_reducible refine below_drewN ?_ _) | (with_reducible assumption) | (with_reducible refine below_after (by with_reducible assumption) ?_) | go_size)))
      (try simp only [World.size_alloc] at h)
      rw [hG] at h
      rw [hw0]; exact h
    have HB : Hid (Below w.heap.size w w0) := by show Below w.heap.size w w0; rw [hw0]; (repeat' (first | (with_reducible exact Below.refl _ _) | (with_reducible refine Below.alloc ?_ ?_ _) | (with_reducible refine Below.setCell ?_ ?_ _) | (with_reducible refine Below.drew ?_) | (with_reducible refine below_drewN ?_ _) | (with_reducible assumption) | (with_reducible refine below_after (by with_reducible assumption) ?_) | go_size))
    clear hw0
    obtain ⟨GY, hGY⟩ : ∃ g, GX + 1 = g := ⟨_, rfl⟩
    rw [hGY] at HY ⊢
    have le_X : w.heap.size ≤ GX := by omega
    have le_Y : w.heap.size ≤ GY := by omega
    have ne_Y_X : GY ≠ GX := by omega
    have ne_X_Y : GX ≠ GY := by omega
    clear hGY
    obtain ⟨⟨qX0, qX1, qX2⟩, ⟨fX0, fX1, fX2⟩, zX⟩ := HX.out
    obtain ⟨⟨qY0, qY1, qY2⟩, ⟨fY0, fY1, fY2⟩, zY⟩ := HY.out
    go_wp2_with fail
    go_at_call 30
    refine (impl_IsForm_any a b c _).mono ?_
    rintro e w1 ⟨rfl, hb⟩
    clear qX0 fX0 qX1 fX1 qX2 fX2 zX qY0 fY0 qY1 fY1 qY2 fY2 zY
    have HX := Lib.hid (HX.out.below hb)
    have HY := Lib.hid (HY.out.below hb)
    have HB := Lib.hid (below_after hb HB.out)
    clear hb
    obtain ⟨⟨qX0, qX1, qX2⟩, ⟨fX0, fX1, fX2⟩, zX⟩ := HX.out
    obtain ⟨⟨qY0, qY1, qY2⟩, ⟨fY0, fY1, fY2⟩, zY⟩ := HY.out
    go_wp2_with fail
    go_at_call 30
    refine (impl_IsForm_any d e f _).mono ?_
    rintro e w2 ⟨rfl, hb⟩
    clear qX0 fX0 qX1 fX1 qX2 fX2 zX qY0 fY0 qY1 fY1 qY2 fY2 zY
    have HX := Lib.hid (HX.out.below hb)
    have HY := Lib.hid (HY.out.below hb)
    have HB := Lib.hid (below_after hb HB.out)
    clear hb
    obtain ⟨⟨qX0, qX1, qX2⟩, ⟨fX0, fX1, fX2⟩, zX⟩ := HX.out
    obtain ⟨⟨qY0, qY1, qY2⟩, ⟨fY0, fY1, fY2⟩, zY⟩ := HY.out
    go_wp2_with fail
    refine bodyPost_ret (v := .tuple #[.bool false, .int .i64 1]) (by simp (maxDischargeDepth := 8) [results, Try.results44, go_sem, *]) rfl ?_
    have hb := HB.out
    exact ⟨rfl, by (repeat' (first | (with_reducible exact Below.refl _ _) | (with_reducible refine Below.alloc ?_ ?_ _) | (with_reducible refine Below.setCell ?_ ?_ _) | (with_reducible refine Below.drew ?_) | (with_reducible refine below_drewN ?_ _) | (with_reducible assumption) | (with_reducible refine below_after (by with_reducible assumption) ?_) | go_size))⟩
set_option maxHeartbeats 1600000 in
theorem spec_aq_no (a b c d e f : Int) (w : World) (hn : (isFm a b c && isFm d e f) = false) : Calls Try.prog 43 #[.agg #[.int .i64 a, .int .i64 b, .int .i64 c], .agg #[.int .i64 d, .int .i64 e, .int .i64 f]] w fun e1 w' => e1 = .returned (.tuple #[.bool (false), .int .i64 1]) ∧ Below w.heap.size w w' := by
  cases h0 : isFm a b c
  · clear hn
    obtain ⟨GX, hG⟩ : ∃ G, w.heap.size = G := ⟨_, rfl⟩
    have HG := Lib.hid hG
    go_enter Try.func43, Try.ntmps43
    go_upto_region 1 with fail
    obtain ⟨w0, hw0⟩ : ∃ w0, w0 = ((w.alloc (.cells #[.int .i64 a, .int .i64 b, .int .i64 c] 43)).alloc (.cells #[.int .i64 d, .int .i64 e, .int .i64 f] 43)) := ⟨_, rfl⟩
    rw [← hw0]
    have HX : Hid (Bk3 w0 GX a b c) := by
      have h := (bk3_new w a b c 43).below (W' := ((w.alloc (.cells #[.int .i64 a, .int .i64 b, .int .i64 c] 43)).alloc (.cells #[.int .i64 d, .int .i64 e, .int .i64 f] 43))) (by (repeat' (first | (with_reducible exact Below.refl _ _) | (with_reducible refine Below.alloc ?_ ?_ _) | (with_reducible refine Below.setCell ?_ ?_ _) | (with_reducible refine Below.drew ?_) | (with_reducible refine below_drewN ?_ _) | (with_reducible assumption) | (with_reducible refine below_after (by with_reducible assumption) ?_) | go_size)))
      (try simp only [World.size_alloc] at h)
      rw [hG] at h
      rw [hw0]; exact h
    have HY : Hid (Bk3 w0 (GX + 1) d e f) := by
      have h := (bk3_new (w.alloc (.cells #[.int .i64 a, .int .i64 b, .int .i64 c] 43)) d e f 43).below (W' := ((w.alloc (.cells #[.int .i64 a, .int .i64 b, .int .i64 c] 43)).alloc (.cells #[.int .i64 d, .int .i64 e, .int .i64 f] 43))) (by (repeat' (first | (with_reducible exact Below.refl _ _) | (with_reducible refine Below.alloc ?_ ?_ _) | (with_reducible refine Below.setCell ?_ ?_ _) | (with_reducible refine Below.drew ?_) | (with_reducible refine below_drewN ?_ _) | (with_reducible assumption) | (with_reducible refine below_after (by with_reducible assumption) ?_) | go_size)))
      (try simp only [World.size_alloc] at h)
      rw [hG] at h
      rw [hw0]; exact h
    have HB : Hid (Below w.heap.size w w0) := by show Below w.heap.size w w0; rw [hw0]; (repeat' (first | (with_reducible exact Below.refl _ _) | (with_reducible refine Below.alloc ?_ ?_ _) | (with_reducible refine Below.setCell ?_ ?_ _) | (with_reducible refine Below.drew ?_) | (with_reducible refine below_drewN ?_ _) | (with_reducible assumption) | (with_reducible refine below_after (by with_reducible assumption) ?_) | go_size))
    clear hw0
    obtain ⟨GY, hGY⟩ : ∃ g, GX + 1 = g := ⟨_, rfl⟩
    rw [hGY] at HY ⊢
    have le_X : w.heap.size ≤ GX := by omega
    have le_Y : w.heap.size ≤ GY := by omega
    have ne_Y_X : GY ≠ GX := by omega
    have ne_X_Y : GX ≠ GY := by omega
    clear hGY
    obtain ⟨⟨qX0, qX1, qX2⟩, ⟨fX0, fX1, fX2⟩, zX⟩ := HX.out
    obtain ⟨⟨qY0, qY1, qY2⟩, ⟨fY0, fY1, fY2⟩, zY⟩ := HY.out
    go_wp2_with fail
    go_at_call 70
    refine (l06Is_any a b c _).mono ?_
    rintro e w1 ⟨rfl, hb⟩
    clear qX0 fX0 qX1 fX1 qX2 fX2 zX qY0 fY0 qY1 fY1 qY2 fY2 zY
    have HX := Lib.hid (HX.out.below hb)
    have HY := Lib.hid (HY.out.below hb)
    have HB := Lib.hid (below_after hb HB.out)
    clear hb
    obtain ⟨⟨qX0, qX1, qX2⟩, ⟨fX0, fX1, fX2⟩, zX⟩ := HX.out
    obtain ⟨⟨qY0, qY1, qY2⟩, ⟨fY0, fY1, fY2⟩, zY⟩ := HY.out
    go_wp2_with fail
    refine bodyPost_ret (v := .tuple #[.bool false, .int .i64 1]) (by simp (maxDischargeDepth := 8) [results, Try.results43, go_sem, *]) rfl ?_
    have hb := HB.out
    exact ⟨rfl, by (repeat' (first | (with_reducible exact Below.refl _ _) | (with_reducible refine Below.alloc ?_ ?_ _) | (with_reducible refine Below.setCell ?_ ?_ _) | (with_reducible refine Below.drew ?_) | (with_reducible refine below_drewN ?_ _) | (with_reducible assumption) | (with_reducible refine below_after (by with_reducible assumption) ?_) | go_size))⟩
  · have h1 : isFm d e f = false := by rw [h0, Bool.true_and] at hn; exact hn
    clear hn
    obtain ⟨GX, hG⟩ : ∃ G, w.heap.size = G := ⟨_, rfl⟩
    have HG := Lib.hid hG
    go_enter Try.func43, Try.ntmps43
    go_upto_region 1 with fail
    obtain ⟨w0, hw0⟩ : ∃ w0, w0 = ((w.alloc (.cells #[.int .i64 a, .int .i64 b, .int .i64 c] 43)).alloc (.cells #[.int .i64 d, .int .i64 e, .int .i64 f] 43)) := ⟨_, rfl⟩
    rw [← hw0]
    have HX : Hid (Bk3 w0 GX a b c) := by
      have h := (bk3_new w a b c 43).below (W' := ((w.alloc (.cells #[.int .i64 a, .int .i64 b, .int .i64 c] 43)).alloc (.cells #[.int .i64 d, .int .i64 e, .int .i64 f] 43))) (by (repeat' (first | (with_reducible exact Below.refl _ _) | (with_reducible refine Below.alloc ?_ ?_ _) | (with_reducible refine Below.setCell ?_ ?_ _) | (with_reducible refine Below.drew ?_) | (with_reducible refine below_drewN ?_ _) | (with_reducible assumption) | (with_reducible refine below_after (by with_reducible assumption) ?_) | go_size)))
      (try simp only [World.size_alloc] at h)
      rw [hG] at h
      rw [hw0]; exact h
    have HY : Hid (Bk3 w0 (GX + 1) d e f) := by
      have h := (bk3_new (w.alloc (.cells #[.int .i64 a, .int .i64 b, .int .i64 c] 43)) d e f 43).below (W' := ((w.alloc (.cells #[.int .i64 a, .int .i64 b, .int .i64 c] 43)).alloc (.cells #[.int .i64 d, .int .i64 e, .int .i64 f] 43))) (by (repeat' (first | (with_reducible exact Below.refl _ _) | (with_reducible refine Below.alloc ?_ ?_ _) | (with_reducible refine Below.setCell ?_ ?_ _) | (with_reducible refine Below.drew ?_) | (with_reducible refine below_drewN ?_ _) | (with_reducible assumption) | (with_reducible refine below_after (by with_reducible assumption) ?_) | go_size)))
      (try simp only [World.size_alloc] at h)
      rw [hG] at h
      rw [hw0]; exact h
    have HB : Hid (Below w.heap.size w w0) := by show Below w.heap.size w w0; rw [hw0]; (repeat' (first | (with_reducible exact Below.refl _ _) | (with_reducible refine Below.alloc ?_ ?_ _) | (with_reducible refine Below.setCell ?_ ?_ _) | (with_reducible refine Below.drew ?_) | (with_reducible refine below_drewN ?_ _) | (with_reducible assumption) | (with_reducible refine below_after (by with_reducible assumption) ?_) | go_size))
    clear hw0
    obtain ⟨GY, hGY⟩ : ∃ g, GX + 1 = g := ⟨_, rfl⟩
    rw [hGY] at HY ⊢
    have le_X : w.heap.size ≤ GX := by omega
    have le_Y : w.heap.size ≤ GY := by omega
    have ne_Y_X : GY ≠ GX := by omega
    have ne_X_Y : GX ≠ GY := by omega
    clear hGY
    obtain ⟨⟨qX0, qX1, qX2⟩, ⟨fX0, fX1, fX2⟩, zX⟩ := HX.out
    obtain ⟨⟨qY0, qY1, qY2⟩, ⟨fY0, fY1, fY2⟩, zY⟩ := HY.out
    go_wp2_with fail
    go_at_call 70
    refine (l06Is_any a b c _).mono ?_
    rintro e w1 ⟨rfl, hb⟩
    clear qX0 fX0 qX1 fX1 qX2 fX2 zX qY0 fY0 qY1 fY1 qY2 fY2 zY
    have HX := Lib.hid (HX.out.below hb)
    have HY := Lib.hid (HY.out.below hb)
    have HB := Lib.hid (below_after hb HB.out)
    clear hb
    obtain ⟨⟨qX0, qX1, qX2⟩, ⟨fX0, fX1, fX2⟩, zX⟩ := HX.out
    obtain ⟨⟨qY0, qY1, qY2⟩, ⟨fY0, fY1, fY2⟩, zY⟩ := HY.out
    go_wp2_with fail
    go_at_call 70
    refine (l06Is_any d e f _).mono ?_
    rintro e w2 ⟨rfl, hb⟩
    clear qX0 fX0 qX1 fX1 qX2 fX2 zX qY0 fY0 qY1 fY1 qY2 fY2 zY
    have HX := Lib.hid (HX.out.below hb)
    have HY := Lib.hid (HY.out.below hb)
    have HB := Lib.hid (below_after hb HB.out)
    clear hb
    obtain ⟨⟨qX0, qX1, qX2⟩, ⟨fX0, fX1, fX2⟩, zX⟩ := HX.out
    obtain ⟨⟨qY0, qY1, qY2⟩, ⟨fY0, fY1, fY2⟩, zY⟩ := HY.out
    go_wp2_with fail
    refine bodyPost_ret (v := .tuple #[.bool false, .int .i64 1]) (by simp (maxDischargeDepth := 8) [results, Try.results43, go_sem, *]) rfl ?_
    have hb := HB.out
    exact ⟨rfl, by (repeat' (first | (with_reducible exact Below.refl _ _) | (with_reducible refine Below.alloc ?_ ?_ _) | (with_reducible refine Below.setCell ?_ ?_ _) | (with_reducible refine Below.drew ?_) | (with_reducible refine below_drewN ?_ _) | (with_reducible assumption) | (with_reducible refine below_after (by with_reducible assumption) ?_) | go_size))⟩
set_option maxHeartbeats 3200000 in
theorem impl_aq_yes (a b c d e f : Int) (w : World) (h0 : isFm a b c = true) (h1 : isFm d e f = true) : Calls Try.prog 44 #[.agg #[.int .i64 a, .int .i64 b, .int .i64 c], .agg #[.int .i64 d, .int .i64 e, .int .i64 f]] w fun e1 w' => e1 = .returned (.tuple #[.bool (decide (frT (d, e, f) ∈ cyT (frT (a, b, c)))), .int .i64 0]) ∧ Below w.heap.size w w' := by
  obtain ⟨q1, q2, _⟩ := frT_facts (x := (a, b, c)) h0
  have HF1 : Hid (∀ w, Calls Try.prog 82 #[.agg #[.int .i64 a, .int .i64 b, .int .i64 c]] w fun e w' => e = .returned (aggT (frT (a, b, c))) ∧ Below w.heap.size w w') := fun w => firstReduced_any a b c w h0
  have HF2 : Hid (∀ w, Calls Try.prog 82 #[.agg #[.int .i64 d, .int .i64 e, .int .i64 f]] w fun e1 w' => e1 = .returned (aggT (frT (d, e, f))) ∧ Below w.heap.size w w') := fun w => firstReduced_any d e f w h1
  obtain ⟨⟨u0, u1, u2⟩, hu⟩ : ∃ z, frT (a, b, c) = z := ⟨_, rfl⟩
  obtain ⟨⟨z0, z1, z2⟩, hz⟩ : ∃ z, frT (d, e, f) = z := ⟨_, rfl⟩
  rw [hu] at q1 q2 HF1
  rw [hz] at HF2
  rw [hu, hz]
  have HF1 : Hid (∀ w, Calls Try.prog 82 #[.agg #[.int .i64 a, .int .i64 b, .int .i64 c]] w fun e w' => e = .returned (.agg #[.int .i64 u0, .int .i64 u1, .int .i64 u2]) ∧ Below w.heap.size w w') := HF1
  have HF2 : Hid (∀ w, Calls Try.prog 82 #[.agg #[.int .i64 d, .int .i64 e, .int .i64 f]] w fun e w' => e = .returned (.agg #[.int .i64 z0, .int .i64 z1, .int .i64 z2]) ∧ Below w.heap.size w w') := HF2
  have HC : Hid (∀ w, Calls Try.prog 81 #[.agg #[.int .i64 u0, .int .i64 u1, .int .i64 u2]] w fun e w' => ∃ v, e = .returned v ∧ OwnT w.heap.size w' v (cyT (u0, u1, u2)) ∧ Below w.heap.size w w') := fun w => cycleFrom_any u0 u1 u2 w q1 q2
  have HLN : Hid ((cyT (u0, u1, u2)).length ≤ 140737488351232) := by have := cyT_len (u0, u1, u2); show _ ≤ _; omega
  clear q1 q2 hu hz
  obtain ⟨GX, hG⟩ : ∃ G, w.heap.size = G := ⟨_, rfl⟩
  have HG := Lib.hid hG
  go_enter Try.func44, Try.ntmps44
  go_upto_region 1 with fail
  obtain ⟨w0, hw0⟩ : ∃ w0, w0 = ((w.alloc (.cells #[.int .i64 a, .int .i64 b, .int .i64 c] 43)).alloc (.cells #[.int .i64 d, .int .i64 e, .int .i64 f] 43)) := ⟨_, rfl⟩
  rw [← hw0]
  have HX : Hid (Bk3 w0 GX a b c) := by
    have h := (bk3_new w a b c 43).below (W' := ((w.alloc (.cells #[.int .i64 a, .int .i64 b, .int .i64 c] 43)).alloc (.cells #[.int .i64 d, .int .i64 e, .int .i64 f] 43))) (by (repeat' (first | (with_reducible exact Below.refl _ _) | (with_reducible refine Below.alloc ?_ ?_ _) | (with_reducible refine Below.setCell ?_ ?_ _) | (with_reducible refine Below.drew ?_) | (with_reducible refine below_drewN ?_ _) | (with_reducible assumption) | (with_reducible refine below_after (by with_reducible assumption) ?_) | go_size)))
    (try simp only [World.size_alloc] at h)
    rw [hG] at h
    rw [hw0]; exact h
  have HY : Hid (Bk3 w0 (GX + 1) d e f) := by
    have h := (bk3_new (w.alloc (.cells #[.int .i64 a, .int .i64 b, .int .i64 c] 43)) d e f 43).below (W' := ((w.alloc (.cells #[.int .i64 a, .int .i64 b, .int .i64 c] 43)).alloc (.cells #[.int .i64 d, .int .i64 e, .int .i64 f] 43))) (by (repeat' (first | (with_reducible exact Below.refl _ _) | (with_reducible refine Below.alloc ?_ ?_ _) | (with_reducible refine Below.setCell ?_ ?_ _) | (with_reducible refine Below.drew ?_) | (with_reducible refine below_drewN ?_ _) | (with_reducible assumption) | (with_reducible refine below_after (by with_reducible assumption) ?_) | go_size)))
    (try simp only [World.size_alloc] at h)
    rw [hG] at h
    rw [hw0]; exact h
  have HB : Hid (Below w.heap.size w w0) := by show Below w.heap.size w w0; rw [hw0]; (repeat' (first | (with_reducible exact Below.refl _ _) | (with_reducible refine Below.alloc ?_ ?_ _) | (with_reducible refine Below.setCell ?_ ?_ _) | (with_reducible refine Below.drew ?_) | (with_reducible refine below_drewN ?_ _) | (with_reducible assumption) | (with_reducible refine below_after (by with_reducible assumption) ?_) | go_size))
  clear hw0
  obtain ⟨GY, hGY⟩ : ∃ g, GX + 1 = g := ⟨_, rfl⟩
  rw [hGY] at HY ⊢
  have le_X : w.heap.size ≤ GX := by omega
  have le_Y : w.heap.size ≤ GY := by omega
  have ne_Y_X : GY ≠ GX := by omega
  have ne_X_Y : GX ≠ GY := by omega
  clear hGY
  obtain ⟨⟨qX0, qX1, qX2⟩, ⟨fX0, fX1, fX2⟩, zX⟩ := HX.out
  obtain ⟨⟨qY0, qY1, qY2⟩, ⟨fY0, fY1, fY2⟩, zY⟩ := HY.out
  go_wp2_with fail
  go_at_call 30
  refine (impl_IsForm_any a b c _).mono ?_
  rintro e w1 ⟨rfl, hb⟩
  clear qX0 fX0 qX1 fX1 qX2 fX2 zX qY0 fY0 qY1 fY1 qY2 fY2 zY
  have HX := Lib.hid (HX.out.below hb)
  have HY := Lib.hid (HY.out.below hb)
  have HB := Lib.hid (below_after hb HB.out)
  clear hb
  obtain ⟨⟨qX0, qX1, qX2⟩, ⟨fX0, fX1, fX2⟩, zX⟩ := HX.out
  obtain ⟨⟨qY0, qY1, qY2⟩, ⟨fY0, fY1, fY2⟩, zY⟩ := HY.out
  go_wp2_with fail
  go_at_call 30
  refine (impl_IsForm_any d e f _).mono ?_
  rintro e w2 ⟨rfl, hb⟩
  clear qX0 fX0 qX1 fX1 qX2 fX2 zX qY0 fY0 qY1 fY1 qY2 fY2 zY
  have HX := Lib.hid (HX.out.below hb)
  have HY := Lib.hid (HY.out.below hb)
  have HB := Lib.hid (below_after hb HB.out)
  clear hb
  have HXX : Hid (∀ W, Below w2.heap.size w2 W → Bk3 W GX a b c ∧ Bk3 W GY d e f) := fun W hW => ⟨HX.out.below hW, HY.out.below hW⟩
  go_wp2_with fail
  refine wp_region_held_drew (S := fun W => Below w2.heap.size w2 W) (by kernel_rfl) ?_ (fun hHeld => ?_); focus ((try dsimp only); exact (Below.refl _ _).drew)
  have HX := Lib.hid (HX.out.below (Below.drew (Below.refl _ _)))
  have HY := Lib.hid (HY.out.below (Below.drew (Below.refl _ _)))
  have hHeld : Below w2.heap.size w2 _ := hHeld
  obtain ⟨wD2, hwD2⟩ : ∃ wD, w2.drew = wD := ⟨_, rfl⟩
  rw [hwD2] at hHeld HX HY ⊢
  clear hwD2
  (refine wpAnyH_take (i := 0) (v := ?_) rfl (by kernel_rfl) (by kernel_rfl) (by kernel_rfl) (fun _ _ _ h => h) (Or.inl ⟨rfl, ?_⟩) (by assumption) ?_; rotate_left; focus (intro W hSw; (try dsimp only at hSw); have hxx := HXX.out _ hSw; obtain ⟨hxX, hxY⟩ := hxx; obtain ⟨⟨iX0, iX1, iX2⟩, _, _⟩ := hxX; obtain ⟨⟨iY0, iY1, iY2⟩, _, _⟩ := hxY; go_simp; try (with_reducible rfl))); (try simp only [Act.put, List.getElem_toArray, List.getElem_cons_succ, List.getElem_cons_zero, List.setIfInBounds_toArray, List.set_cons_zero, List.set_cons_succ])
  (refine wpAnyH_take (i := 3) (v := ?_) rfl (by kernel_rfl) (by kernel_rfl) (by kernel_rfl) (fun _ _ _ h => h) (Or.inl ⟨rfl, ?_⟩) (by assumption) ?_; rotate_left; focus (intro W hSw; (try dsimp only at hSw); have hxx := HXX.out _ hSw; obtain ⟨hxX, hxY⟩ := hxx; obtain ⟨⟨iX0, iX1, iX2⟩, _, _⟩ := hxX; obtain ⟨⟨iY0, iY1, iY2⟩, _, _⟩ := hxY; go_simp; try (with_reducible rfl))); (try simp only [Act.put, List.getElem_toArray, List.getElem_cons_succ, List.getElem_cons_zero, List.setIfInBounds_toArray, List.set_cons_zero, List.set_cons_succ])
  refine wpAnyH_ready (rs := [1]) (by kernel_rfl) (by simp) ?_; refine AllReadyH.cons rfl (fun K hK => ?_) AllReadyH.nil
  go_simp; (go_at_call 82; refine (HF1.out _).mono ?_; rintro en ywr2x0 ⟨rfl, hb2⟩); have HX := Lib.hid (HX.out.below hb2); have HY := Lib.hid (HY.out.below hb2); refine hK.out _ _ (below_after hb2 hHeld) (fun hHeld2 => ?_); clear hb2; (clear hHeld; rename _ => hHeld; clear hK K; have hHeld : Below w2.heap.size w2 _ := hHeld); (try simp only [Act.put, List.getElem_toArray, List.getElem_cons_succ, List.getElem_cons_zero, List.setIfInBounds_toArray, List.set_cons_zero, List.set_cons_succ])
  refine wpAnyH_ready (rs := [2]) (by kernel_rfl) (by simp) ?_; refine AllReadyH.cons rfl (fun K hK => ?_) AllReadyH.nil
  go_simp; (go_at_call 81; refine (HC.out _).mono ?_; rintro en ywr2x1 ⟨v, rfl, hv, hb2⟩); obtain ⟨va, vc, rfl⟩ := viewT hv; obtain ⟨n, hn⟩ : ∃ n, (cyT (u0, u1, u2)).length = n := ⟨_, rfl⟩; rw [hn] at hv ⊢; have HL := Lib.hid hv; clear hv hn; have HX := Lib.hid (HX.out.below hb2); have HY := Lib.hid (HY.out.below hb2); refine hK.out _ _ (below_after hb2 hHeld) (fun hHeld2 => ?_); clear hb2; (clear hHeld; rename _ => hHeld; clear hK K; have hHeld : Below w2.heap.size w2 _ := hHeld); (try simp only [Act.put, List.getElem_toArray, List.getElem_cons_succ, List.getElem_cons_zero, List.setIfInBounds_toArray, List.set_cons_zero, List.set_cons_succ])
  refine wpAnyH_ready (rs := [4]) (by kernel_rfl) (by simp) ?_; refine AllReadyH.cons rfl (fun K hK => ?_) AllReadyH.nil
  go_simp; (go_at_call 82; refine (HF2.out _).mono ?_; rintro en ywr2x2 ⟨rfl, hb2⟩); have HX := Lib.hid (HX.out.below hb2); have HY := Lib.hid (HY.out.below hb2); have HL := Lib.hid (HL.out.below hb2); refine hK.out _ _ (below_after hb2 hHeld) (fun hHeld2 => ?_); clear hb2; (clear hHeld; rename _ => hHeld; clear hK K; have hHeld : Below w2.heap.size w2 _ := hHeld); (try simp only [Act.put, List.getElem_toArray, List.getElem_cons_succ, List.getElem_cons_zero, List.setIfInBounds_toArray, List.set_cons_zero, List.set_cons_succ])
  refine wpAnyH_ready (rs := [5]) (by kernel_rfl) (by simp) ?_; refine AllReadyH.cons rfl (fun K hK => ?_) AllReadyH.nil
  go_simp; (go_at_call 84; refine (containsFo_any _ _ _ _ _ _ _ HL.out HLN.out).mono ?_; rintro en ywr2x3 ⟨rfl, hb2⟩); have HX := Lib.hid (HX.out.below hb2); have HY := Lib.hid (HY.out.below hb2); have HL := Lib.hid (HL.out.below hb2); refine hK.out _ _ (below_after hb2 hHeld) (fun hHeld2 => ?_); clear hb2; (clear hHeld; rename _ => hHeld; clear hK K; have hHeld : Below w2.heap.size w2 _ := hHeld); (try simp only [Act.put, List.getElem_toArray, List.getElem_cons_succ, List.getElem_cons_zero, List.setIfInBounds_toArray, List.set_cons_zero, List.set_cons_succ])
  (refine wpAnyH_take (i := 6) (v := ?_) rfl (by kernel_rfl) (by kernel_rfl) (by kernel_rfl) (fun _ _ _ h => h) (Or.inl ⟨rfl, ?_⟩) (by assumption) ?_; rotate_left; focus (intro W hSw; (try dsimp only at hSw); have hxx := HXX.out _ hSw; obtain ⟨hxX, hxY⟩ := hxx; obtain ⟨⟨iX0, iX1, iX2⟩, _, _⟩ := hxX; obtain ⟨⟨iY0, iY1, iY2⟩, _, _⟩ := hxY; go_simp; try (with_reducible rfl))); (try simp only [Act.put, List.getElem_toArray, List.getElem_cons_succ, List.getElem_cons_zero, List.setIfInBounds_toArray, List.set_cons_zero, List.set_cons_succ])
  (refine wpAnyH_take (i := 7) (v := ?_) rfl (by kernel_rfl) (by kernel_rfl) (by kernel_rfl) (fun _ _ _ h => h) (Or.inl ⟨rfl, ?_⟩) (by assumption) ?_; rotate_left; focus (intro W hSw; (try dsimp only at hSw); have hxx := HXX.out _ hSw; obtain ⟨hxX, hxY⟩ := hxx; obtain ⟨⟨iX0, iX1, iX2⟩, _, _⟩ := hxX; obtain ⟨⟨iY0, iY1, iY2⟩, _, _⟩ := hxY; go_simp; try (with_reducible rfl))); (try simp only [Act.put, List.getElem_toArray, List.getElem_cons_succ, List.getElem_cons_zero, List.setIfInBounds_toArray, List.set_cons_zero, List.set_cons_succ])
  refine wpAnyH_done (by kernel_rfl) ?_ _
  have HB := Lib.hid (HB.out.trans (hHeld.mono HB.out.size))
  clear hHeld HXX
  obtain ⟨⟨qX0, qX1, qX2⟩, ⟨fX0, fX1, fX2⟩, zX⟩ := HX.out
  obtain ⟨⟨qY0, qY1, qY2⟩, ⟨fY0, fY1, fY2⟩, zY⟩ := HY.out
  go_wp2_with fail
  refine bodyPost_ret (v := .tuple #[.bool (decide ((z0, z1, z2) ∈ cyT (u0, u1, u2))), .int .i64 0]) (by simp (maxDischargeDepth := 8) [results, Try.results44, go_sem, *]) rfl ?_
  have hb := HB.out
  exact ⟨rfl, by (repeat' (first | (with_reducible exact Below.refl _ _) | (with_reducible refine Below.alloc ?_ ?_ _) | (with_reducible refine Below.setCell ?_ ?_ _) | (with_reducible refine Below.drew ?_) | (with_reducible refine below_drewN ?_ _) | (with_reducible assumption) | (with_reducible refine below_after (by with_reducible assumption) ?_) | go_size))⟩
set_option maxHeartbeats 3200000 in
theorem spec_aq_far (a b c d e f : Int) (w : World) (h0 : isFm a b c = true) (h1 : isFm d e f = true) (hd : ¬ dT (a, b, c) = dT (d, e, f)) : Calls Try.prog 43 #[.agg #[.int .i64 a, .int .i64 b, .int .i64 c], .agg #[.int .i64 d, .int .i64 e, .int .i64 f]] w fun e1 w' => e1 = .returned (.tuple #[.bool (false), .int .i64 0]) ∧ Below w.heap.size w w' := by
  obtain ⟨bx1, bx2, bx3⟩ := fm_bc h0
  obtain ⟨by1, by2, by3⟩ := fm_bc h1
  have HD1 : Hid (∀ w, Calls Try.prog 74 #[.agg #[.int .i64 a, .int .i64 b, .int .i64 c]] w fun e w' => e = .returned (.int .i64 (dT (a, b, c))) ∧ Below w.heap.size w w') := fun w => l06Disc_any a b c w bx1 bx2 bx3
  have HD2 : Hid (∀ w, Calls Try.prog 74 #[.agg #[.int .i64 d, .int .i64 e, .int .i64 f]] w fun e1 w' => e1 = .returned (.int .i64 (dT (d, e, f))) ∧ Below w.heap.size w w') := fun w => l06Disc_any d e f w by1 by2 by3
  clear bx1 bx2 bx3 by1 by2 by3
  generalize dT (a, b, c) = D1 at *
  generalize dT (d, e, f) = D2 at *
  have hq : (D1 == D2) = false := by simpa using hd
  have hq2 : (D1 != D2) = true := by simpa using hd
  obtain ⟨GX, hG⟩ : ∃ G, w.heap.size = G := ⟨_, rfl⟩
  have HG := Lib.hid hG
  go_enter Try.func43, Try.ntmps43
  go_upto_region 1 with fail
  obtain ⟨w0, hw0⟩ : ∃ w0, w0 = ((w.alloc (.cells #[.int .i64 a, .int .i64 b, .int .i64 c] 43)).alloc (.cells #[.int .i64 d, .int .i64 e, .int .i64 f] 43)) := ⟨_, rfl⟩
  rw [← hw0]
  have HX : Hid (Bk3 w0 GX a b c) := by
    have h := (bk3_new w a b c 43).below (W' := ((w.alloc (.cells #[.int .i64 a, .int .i64 b, .int .i64 c] 43)).alloc (.cells #[.int .i64 d, .int .i64 e, .int .i64 f] 43))) (by (repeat' (first | (with_reducible exact Below.refl _ _) | (with_reducible refine Below.alloc ?_ ?_ _) | (with_reducible refine Below.setCell ?_ ?_ _) | (with_reducible refine Below.drew ?_) | (with_reducible refine below_drewN ?_ _) | (with_reducible assumption) | (with_reducible refine below_after (by with_reducible assumption) ?_) | go_size)))
    (try simp only [World.size_alloc] at h)
    rw [hG] at h
    rw [hw0]; exact h
  have HY : Hid (Bk3 w0 (GX + 1) d e f) := by
    have h := (bk3_new (w.alloc (.cells #[.int .i64 a, .int .i64 b, .int .i64 c] 43)) d e f 43).below (W' := ((w.alloc (.cells #[.int .i64 a, .int .i64 b, .int .i64 c] 43)).alloc (.cells #[.int .i64 d, .int .i64 e, .int .i64 f] 43))) (by (repeat' (first | (with_reducible exact Below.refl _ _) | (with_reducible refine Below.alloc ?_ ?_ _) | (with_reducible refine Below.setCell ?_ ?_ _) | (with_reducible refine Below.drew ?_) | (with_reducible refine below_drewN ?_ _) | (with_reducible assumption) | (with_reducible refine below_after (by with_reducible assumption) ?_) | go_size)))
    (try simp only [World.size_alloc] at h)
    rw [hG] at h
    rw [hw0]; exact h
  have HB : Hid (Below w.heap.size w w0) := by show Below w.heap.size w w0; rw [hw0]; (repeat' (first | (with_reducible exact Below.refl _ _) | (with_reducible refine Below.alloc ?_ ?_ _) | (with_reducible refine Below.setCell ?_ ?_ _) | (with_reducible refine Below.drew ?_) | (with_reducible refine below_drewN ?_ _) | (with_reducible assumption) | (with_reducible refine below_after (by with_reducible assumption) ?_) | go_size))
  clear hw0
  obtain ⟨GY, hGY⟩ : ∃ g, GX + 1 = g := ⟨_, rfl⟩
  rw [hGY] at HY ⊢
  have le_X : w.heap.size ≤ GX := by omega
  have le_Y : w.heap.size ≤ GY := by omega
  have ne_Y_X : GY ≠ GX := by omega
  have ne_X_Y : GX ≠ GY := by omega
  clear hGY
  obtain ⟨⟨qX0, qX1, qX2⟩, ⟨fX0, fX1, fX2⟩, zX⟩ := HX.out
  obtain ⟨⟨qY0, qY1, qY2⟩, ⟨fY0, fY1, fY2⟩, zY⟩ := HY.out
  go_wp2_with fail
  go_at_call 70
  refine (l06Is_any a b c _).mono ?_
  rintro e w1 ⟨rfl, hb⟩
  clear qX0 fX0 qX1 fX1 qX2 fX2 zX qY0 fY0 qY1 fY1 qY2 fY2 zY
  have HX := Lib.hid (HX.out.below hb)
  have HY := Lib.hid (HY.out.below hb)
  have HB := Lib.hid (below_after hb HB.out)
  clear hb
  obtain ⟨⟨qX0, qX1, qX2⟩, ⟨fX0, fX1, fX2⟩, zX⟩ := HX.out
  obtain ⟨⟨qY0, qY1, qY2⟩, ⟨fY0, fY1, fY2⟩, zY⟩ := HY.out
  go_wp2_with fail
  go_at_call 70
  refine (l06Is_any d e f _).mono ?_
  rintro e w2 ⟨rfl, hb⟩
  clear qX0 fX0 qX1 fX1 qX2 fX2 zX qY0 fY0 qY1 fY1 qY2 fY2 zY
  have HX := Lib.hid (HX.out.below hb)
  have HY := Lib.hid (HY.out.below hb)
  have HB := Lib.hid (below_after hb HB.out)
  clear hb
  have HXX : Hid (∀ W, Below w2.heap.size w2 W → Bk3 W GX a b c ∧ Bk3 W GY d e f) := fun W hW => ⟨HX.out.below hW, HY.out.below hW⟩
  go_wp2_with fail
  refine wp_region_held_drew (S := fun W => Below w2.heap.size w2 W) (by kernel_rfl) ?_ (fun hHeld => ?_); focus ((try dsimp only); exact (Below.refl _ _).drew)
  have HX := Lib.hid (HX.out.below (Below.drew (Below.refl _ _)))
  have HY := Lib.hid (HY.out.below (Below.drew (Below.refl _ _)))
  have hHeld : Below w2.heap.size w2 _ := hHeld
  obtain ⟨wD2, hwD2⟩ : ∃ wD, w2.drew = wD := ⟨_, rfl⟩
  rw [hwD2] at hHeld HX HY ⊢
  clear hwD2
  (refine wpAnyH_take (i := 0) (v := ?_) rfl (by kernel_rfl) (by kernel_rfl) (by kernel_rfl) (fun _ _ _ h => h) (Or.inl ⟨rfl, ?_⟩) (by assumption) ?_; rotate_left; focus (intro W hSw; (try dsimp only at hSw); have hxx := HXX.out _ hSw; obtain ⟨hxX, hxY⟩ := hxx; obtain ⟨⟨iX0, iX1, iX2⟩, _, _⟩ := hxX; obtain ⟨⟨iY0, iY1, iY2⟩, _, _⟩ := hxY; go_simp; try (with_reducible rfl))); (try simp only [Act.put, List.getElem_toArray, List.getElem_cons_succ, List.getElem_cons_zero, List.setIfInBounds_toArray, List.set_cons_zero, List.set_cons_succ])
  (refine wpAnyH_take (i := 2) (v := ?_) rfl (by kernel_rfl) (by kernel_rfl) (by kernel_rfl) (fun _ _ _ h => h) (Or.inl ⟨rfl, ?_⟩) (by assumption) ?_; rotate_left; focus (intro W hSw; (try dsimp only at hSw); have hxx := HXX.out _ hSw; obtain ⟨hxX, hxY⟩ := hxx; obtain ⟨⟨iX0, iX1, iX2⟩, _, _⟩ := hxX; obtain ⟨⟨iY0, iY1, iY2⟩, _, _⟩ := hxY; go_simp; try (with_reducible rfl))); (try simp only [Act.put, List.getElem_toArray, List.getElem_cons_succ, List.getElem_cons_zero, List.setIfInBounds_toArray, List.set_cons_zero, List.set_cons_succ])
  refine wpAnyH_ready (rs := [1]) (by kernel_rfl) (by simp) ?_; refine AllReadyH.cons rfl (fun K hK => ?_) AllReadyH.nil
  go_simp; (go_at_call 74; refine (HD1.out _).mono ?_; rintro en ywr2x0 ⟨rfl, hb2⟩); have HX := Lib.hid (HX.out.below hb2); have HY := Lib.hid (HY.out.below hb2); refine hK.out _ _ (below_after hb2 hHeld) (fun hHeld2 => ?_); clear hb2; (clear hHeld; rename _ => hHeld; clear hK K; have hHeld : Below w2.heap.size w2 _ := hHeld); (try simp only [Act.put, List.getElem_toArray, List.getElem_cons_succ, List.getElem_cons_zero, List.setIfInBounds_toArray, List.set_cons_zero, List.set_cons_succ])
  refine wpAnyH_ready (rs := [3]) (by kernel_rfl) (by simp) ?_; refine AllReadyH.cons rfl (fun K hK => ?_) AllReadyH.nil
  go_simp; (go_at_call 74; refine (HD2.out _).mono ?_; rintro en ywr2x1 ⟨rfl, hb2⟩); have HX := Lib.hid (HX.out.below hb2); have HY := Lib.hid (HY.out.below hb2); refine hK.out _ _ (below_after hb2 hHeld) (fun hHeld2 => ?_); clear hb2; (clear hHeld; rename _ => hHeld; clear hK K; have hHeld : Below w2.heap.size w2 _ := hHeld); (try simp only [Act.put, List.getElem_toArray, List.getElem_cons_succ, List.getElem_cons_zero, List.setIfInBounds_toArray, List.set_cons_zero, List.set_cons_succ])
  (refine wpAnyH_take (i := 4) (v := ?_) rfl (by kernel_rfl) (by kernel_rfl) (by kernel_rfl) (fun _ _ _ h => h) (Or.inl ⟨rfl, ?_⟩) (by assumption) ?_; rotate_left; focus (intro W hSw; (try dsimp only at hSw); have hxx := HXX.out _ hSw; obtain ⟨hxX, hxY⟩ := hxx; obtain ⟨⟨iX0, iX1, iX2⟩, _, _⟩ := hxX; obtain ⟨⟨iY0, iY1, iY2⟩, _, _⟩ := hxY; go_simp; try (with_reducible rfl))); (try simp only [Act.put, List.getElem_toArray, List.getElem_cons_succ, List.getElem_cons_zero, List.setIfInBounds_toArray, List.set_cons_zero, List.set_cons_succ])
  (refine wpAnyH_take (i := 5) (v := ?_) rfl (by kernel_rfl) (by kernel_rfl) (by kernel_rfl) (fun _ _ _ h => h) (Or.inl ⟨rfl, ?_⟩) (by assumption) ?_; rotate_left; focus (intro W hSw; (try dsimp only at hSw); have hxx := HXX.out _ hSw; obtain ⟨hxX, hxY⟩ := hxx; obtain ⟨⟨iX0, iX1, iX2⟩, _, _⟩ := hxX; obtain ⟨⟨iY0, iY1, iY2⟩, _, _⟩ := hxY; go_simp; try (with_reducible rfl))); (try simp only [Act.put, List.getElem_toArray, List.getElem_cons_succ, List.getElem_cons_zero, List.setIfInBounds_toArray, List.set_cons_zero, List.set_cons_succ])
  refine wpAnyH_done (by kernel_rfl) ?_ _
  have HB := Lib.hid (HB.out.trans (hHeld.mono HB.out.size))
  clear hHeld HXX
  obtain ⟨⟨qX0, qX1, qX2⟩, ⟨fX0, fX1, fX2⟩, zX⟩ := HX.out
  obtain ⟨⟨qY0, qY1, qY2⟩, ⟨fY0, fY1, fY2⟩, zY⟩ := HY.out
  go_wp2_with fail
  refine bodyPost_ret (v := .tuple #[.bool false, .int .i64 0]) (by simp (maxDischargeDepth := 8) [results, Try.results43, go_sem, *]) rfl ?_
  have hb := HB.out
  exact ⟨rfl, by (repeat' (first | (with_reducible exact Below.refl _ _) | (with_reducible refine Below.alloc ?_ ?_ _) | (with_reducible refine Below.setCell ?_ ?_ _) | (with_reducible refine Below.drew ?_) | (with_reducible refine below_drewN ?_ _) | (with_reducible assumption) | (with_reducible refine below_after (by with_reducible assumption) ?_) | go_size))⟩
set_option maxHeartbeats 6400000 in
theorem spec_aq_near (a b c d e f : Int) (w : World) (h0 : isFm a b c = true) (h1 : isFm d e f = true) (hd : dT (a, b, c) = dT (d, e, f)) : Calls Try.prog 43 #[.agg #[.int .i64 a, .int .i64 b, .int .i64 c], .agg #[.int .i64 d, .int .i64 e, .int .i64 f]] w fun e1 w' => e1 = .returned (.tuple #[.bool (decide (frT (d, e, f) ∈ cyT (frT (a, b, c)))), .int .i64 0]) ∧ Below w.heap.size w w' := by
  obtain ⟨bx1, bx2, bx3⟩ := fm_bc h0
  obtain ⟨by1, by2, by3⟩ := fm_bc h1
  have HD1 : Hid (∀ w, Calls Try.prog 74 #[.agg #[.int .i64 a, .int .i64 b, .int .i64 c]] w fun e w' => e = .returned (.int .i64 (dT (a, b, c))) ∧ Below w.heap.size w w') := fun w => l06Disc_any a b c w bx1 bx2 bx3
  have HD2 : Hid (∀ w, Calls Try.prog 74 #[.agg #[.int .i64 d, .int .i64 e, .int .i64 f]] w fun e1 w' => e1 = .returned (.int .i64 (dT (d, e, f))) ∧ Below w.heap.size w w') := fun w => l06Disc_any d e f w by1 by2 by3
  clear bx1 bx2 bx3 by1 by2 by3
  rw [← hd] at HD2
  have HC1 : Hid (∀ w, Calls Try.prog 80 #[.agg #[.int .i64 a, .int .i64 b, .int .i64 c]] w fun e w' => ∃ v, e = .returned v ∧ OwnT w.heap.size w' v (cyT (frT (a, b, c))) ∧ Below w.heap.size w w') := fun w => l06Cycle_any a b c w h0
  have HC2 : Hid (∀ w, Calls Try.prog 80 #[.agg #[.int .i64 d, .int .i64 e, .int .i64 f]] w fun e1 w' => ∃ v, e1 = .returned v ∧ OwnT w.heap.size w' v (cyT (frT (d, e, f))) ∧ Below w.heap.size w w') := fun w => l06Cycle_any d e f w h1
  obtain ⟨⟨u0, u1, u2⟩, hu⟩ : ∃ z, frT (a, b, c) = z := ⟨_, rfl⟩
  obtain ⟨⟨z0, z1, z2⟩, hz⟩ : ∃ z, frT (d, e, f) = z := ⟨_, rfl⟩
  rw [hu] at HC1
  rw [hz] at HC2
  rw [hu, hz]
  have HLN : Hid ((cyT (u0, u1, u2)).length ≤ 140737488351232) := by have := cyT_len (u0, u1, u2); show _ ≤ _; omega
  clear hu hz hd
  generalize dT (a, b, c) = D1 at *
  obtain ⟨GX, hG⟩ : ∃ G, w.heap.size = G := ⟨_, rfl⟩
  have HG := Lib.hid hG
  go_enter Try.func43, Try.ntmps43
  go_upto_region 1 with fail
  obtain ⟨w0, hw0⟩ : ∃ w0, w0 = ((w.alloc (.cells #[.int .i64 a, .int .i64 b, .int .i64 c] 43)).alloc (.cells #[.int .i64 d, .int .i64 e, .int .i64 f] 43)) := ⟨_, rfl⟩
  rw [← hw0]
  have HX : Hid (Bk3 w0 GX a b c) := by
    have h := (bk3_new w a b c 43).below (W' := ((w.alloc (.cells #[.int .i64 a, .int .i64 b, .int .i64 c] 43)).alloc (.cells #[.int .i64 d, .int .i64 e, .int .i64 f] 43))) (by (repeat' (first | (with_reducible exact Below.refl _ _) | (with_reducible refine Below.alloc ?_ ?_ _) | (with_reducible refine Below.setCell ?_ ?_ _) | (with_reducible refine Below.drew ?_) | (with_reducible refine below_drewN ?_ _) | (with_reducible assumption) | (with_reducible refine below_after (by with_reducible assumption) ?_) | go_size)))
    (try simp only [World.size_alloc] at h)
    rw [hG] at h
    rw [hw0]; exact h
  have HY : Hid (Bk3 w0 (GX + 1) d e f) := by
    have h := (bk3_new (w.alloc (.cells #[.int .i64 a, .int .i64 b, .int .i64 c] 43)) d e f 43).below (W' := ((w.alloc (.cells #[.int .i64 a, .int .i64 b, .int .i64 c] 43)).alloc (.cells #[.int .i64 d, .int .i64 e, .int .i64 f] 43))) (by (repeat' (first | (with_reducible exact Below.refl _ _) | (with_reducible refine Below.alloc ?_ ?_ _) | (with_reducible refine Below.setCell ?_ ?_ _) | (with_reducible refine Below.drew ?_) | (with_reducible refine below_drewN ?_ _) | (with_reducible assumption) | (with_reducible refine below_after (by with_reducible assumption) ?_) | go_size)))
    (try simp only [World.size_alloc] at h)
    rw [hG] at h
    rw [hw0]; exact h
  have HB : Hid (Below w.heap.size w w0) := by show Below w.heap.size w w0; rw [hw0]; (repeat' (first | (with_reducible exact Below.refl _ _) | (with_reducible refine Below.alloc ?_ ?_ _) | (with_reducible refine Below.setCell ?_ ?_ _) | (with_reducible refine Below.drew ?_) | (with_reducible refine below_drewN ?_ _) | (with_reducible assumption) | (with_reducible refine below_after (by with_reducible assumption) ?_) | go_size))
  clear hw0
  obtain ⟨GY, hGY⟩ : ∃ g, GX + 1 = g := ⟨_, rfl⟩
  rw [hGY] at HY ⊢
  have le_X : w.heap.size ≤ GX := by omega
  have le_Y : w.heap.size ≤ GY := by omega
  have ne_Y_X : GY ≠ GX := by omega
  have ne_X_Y : GX ≠ GY := by omega
  clear hGY
  obtain ⟨⟨qX0, qX1, qX2⟩, ⟨fX0, fX1, fX2⟩, zX⟩ := HX.out
  obtain ⟨⟨qY0, qY1, qY2⟩, ⟨fY0, fY1, fY2⟩, zY⟩ := HY.out
  go_wp2_with fail
  go_at_call 70
  refine (l06Is_any a b c _).mono ?_
  rintro e w1 ⟨rfl, hb⟩
  clear qX0 fX0 qX1 fX1 qX2 fX2 zX qY0 fY0 qY1 fY1 qY2 fY2 zY
  have HX := Lib.hid (HX.out.below hb)
  have HY := Lib.hid (HY.out.below hb)
  have HB := Lib.hid (below_after hb HB.out)
  clear hb
  obtain ⟨⟨qX0, qX1, qX2⟩, ⟨fX0, fX1, fX2⟩, zX⟩ := HX.out
  obtain ⟨⟨qY0, qY1, qY2⟩, ⟨fY0, fY1, fY2⟩, zY⟩ := HY.out
  go_wp2_with fail
  go_at_call 70
  refine (l06Is_any d e f _).mono ?_
  rintro e w2 ⟨rfl, hb⟩
  clear qX0 fX0 qX1 fX1 qX2 fX2 zX qY0 fY0 qY1 fY1 qY2 fY2 zY
  have HX := Lib.hid (HX.out.below hb)
  have HY := Lib.hid (HY.out.below hb)
  have HB := Lib.hid (below_after hb HB.out)
  clear hb
  have HXX : Hid (∀ W, Below w2.heap.size w2 W → Bk3 W GX a b c ∧ Bk3 W GY d e f) := fun W hW => ⟨HX.out.below hW, HY.out.below hW⟩
  go_wp2_with fail
  refine wp_region_held_drew (S := fun W => Below w2.heap.size w2 W) (by kernel_rfl) ?_ (fun hHeld => ?_); focus ((try dsimp only); exact (Below.refl _ _).drew)
  have HX := Lib.hid (HX.out.below (Below.drew (Below.refl _ _)))
  have HY := Lib.hid (HY.out.below (Below.drew (Below.refl _ _)))
  have hHeld : Below w2.heap.size w2 _ := hHeld
  obtain ⟨wD2, hwD2⟩ : ∃ wD, w2.drew = wD := ⟨_, rfl⟩
  rw [hwD2] at hHeld HX HY ⊢
  clear hwD2
  (refine wpAnyH_take (i := 0) (v := ?_) rfl (by kernel_rfl) (by kernel_rfl) (by kernel_rfl) (fun _ _ _ h => h) (Or.inl ⟨rfl, ?_⟩) (by assumption) ?_; rotate_left; focus (intro W hSw; (try dsimp only at hSw); have hxx := HXX.out _ hSw; obtain ⟨hxX, hxY⟩ := hxx; obtain ⟨⟨iX0, iX1, iX2⟩, _, _⟩ := hxX; obtain ⟨⟨iY0, iY1, iY2⟩, _, _⟩ := hxY; go_simp; try (with_reducible rfl))); (try simp only [Act.put, List.getElem_toArray, List.getElem_cons_succ, List.getElem_cons_zero, List.setIfInBounds_toArray, List.set_cons_zero, List.set_cons_succ])
  (refine wpAnyH_take (i := 2) (v := ?_) rfl (by kernel_rfl) (by kernel_rfl) (by kernel_rfl) (fun _ _ _ h => h) (Or.inl ⟨rfl, ?_⟩) (by assumption) ?_; rotate_left; focus (intro W hSw; (try dsimp only at hSw); have hxx := HXX.out _ hSw; obtain ⟨hxX, hxY⟩ := hxx; obtain ⟨⟨iX0, iX1, iX2⟩, _, _⟩ := hxX; obtain ⟨⟨iY0, iY1, iY2⟩, _, _⟩ := hxY; go_simp; try (with_reducible rfl))); (try simp only [Act.put, List.getElem_toArray, List.getElem_cons_succ, List.getElem_cons_zero, List.setIfInBounds_toArray, List.set_cons_zero, List.set_cons_succ])
  refine wpAnyH_ready (rs := [1]) (by kernel_rfl) (by simp) ?_; refine AllReadyH.cons rfl (fun K hK => ?_) AllReadyH.nil
  go_simp; (go_at_call 74; refine (HD1.out _).mono ?_; rintro en ywr2x0 ⟨rfl, hb2⟩); have HX := Lib.hid (HX.out.below hb2); have HY := Lib.hid (HY.out.below hb2); refine hK.out _ _ (below_after hb2 hHeld) (fun hHeld2 => ?_); clear hb2; (clear hHeld; rename _ => hHeld; clear hK K; have hHeld : Below w2.heap.size w2 _ := hHeld); (try simp only [Act.put, List.getElem_toArray, List.getElem_cons_succ, List.getElem_cons_zero, List.setIfInBounds_toArray, List.set_cons_zero, List.set_cons_succ])
  refine wpAnyH_ready (rs := [3]) (by kernel_rfl) (by simp) ?_; refine AllReadyH.cons rfl (fun K hK => ?_) AllReadyH.nil
  go_simp; (go_at_call 74; refine (HD2.out _).mono ?_; rintro en ywr2x1 ⟨rfl, hb2⟩); have HX := Lib.hid (HX.out.below hb2); have HY := Lib.hid (HY.out.below hb2); refine hK.out _ _ (below_after hb2 hHeld) (fun hHeld2 => ?_); clear hb2; (clear hHeld; rename _ => hHeld; clear hK K; have hHeld : Below w2.heap.size w2 _ := hHeld); (try simp only [Act.put, List.getElem_toArray, List.getElem_cons_succ, List.getElem_cons_zero, List.setIfInBounds_toArray, List.set_cons_zero, List.set_cons_succ])
  (refine wpAnyH_take (i := 4) (v := ?_) rfl (by kernel_rfl) (by kernel_rfl) (by kernel_rfl) (fun _ _ _ h => h) (Or.inl ⟨rfl, ?_⟩) (by assumption) ?_; rotate_left; focus (intro W hSw; (try dsimp only at hSw); have hxx := HXX.out _ hSw; obtain ⟨hxX, hxY⟩ := hxx; obtain ⟨⟨iX0, iX1, iX2⟩, _, _⟩ := hxX; obtain ⟨⟨iY0, iY1, iY2⟩, _, _⟩ := hxY; go_simp; try (with_reducible rfl))); (try simp only [Act.put, List.getElem_toArray, List.getElem_cons_succ, List.getElem_cons_zero, List.setIfInBounds_toArray, List.set_cons_zero, List.set_cons_succ])
  (refine wpAnyH_take (i := 5) (v := ?_) rfl (by kernel_rfl) (by kernel_rfl) (by kernel_rfl) (fun _ _ _ h => h) (Or.inl ⟨rfl, ?_⟩) (by assumption) ?_; rotate_left; focus (intro W hSw; (try dsimp only at hSw); have hxx := HXX.out _ hSw; obtain ⟨hxX, hxY⟩ := hxx; obtain ⟨⟨iX0, iX1, iX2⟩, _, _⟩ := hxX; obtain ⟨⟨iY0, iY1, iY2⟩, _, _⟩ := hxY; go_simp; try (with_reducible rfl))); (try simp only [Act.put, List.getElem_toArray, List.getElem_cons_succ, List.getElem_cons_zero, List.setIfInBounds_toArray, List.set_cons_zero, List.set_cons_succ])
  refine wpAnyH_done (by kernel_rfl) ?_ _
  have HB := Lib.hid (HB.out.trans (hHeld.mono HB.out.size))
  clear hHeld HXX
  have HXX : Hid (∀ W, Below ywr2x1.heap.size ywr2x1 W → Bk3 W GX a b c ∧ Bk3 W GY d e f) := fun W hW => ⟨HX.out.below hW, HY.out.below hW⟩
  go_wp2_with fail
  refine wp_region_held_drew (S := fun W => Below ywr2x1.heap.size ywr2x1 W) (by kernel_rfl) ?_ (fun hHeld => ?_); focus ((try dsimp only); exact (Below.refl _ _).drew)
  have HX := Lib.hid (HX.out.below (Below.drew (Below.refl _ _)))
  have HY := Lib.hid (HY.out.below (Below.drew (Below.refl _ _)))
  have hHeld : Below ywr2x1.heap.size ywr2x1 _ := hHeld
  obtain ⟨wD52, hwD52⟩ : ∃ wD, ywr2x1.drew = wD := ⟨_, rfl⟩
  rw [hwD52] at hHeld HX HY ⊢
  clear hwD52
  (refine wpAnyH_take (i := 0) (v := ?_) rfl (by kernel_rfl) (by kernel_rfl) (by kernel_rfl) (fun _ _ _ h => h) (Or.inl ⟨rfl, ?_⟩) (by assumption) ?_; rotate_left; focus (intro W hSw; (try dsimp only at hSw); have hxx := HXX.out _ hSw; obtain ⟨hxX, hxY⟩ := hxx; obtain ⟨⟨iX0, iX1, iX2⟩, _, _⟩ := hxX; obtain ⟨⟨iY0, iY1, iY2⟩, _, _⟩ := hxY; go_simp; try (with_reducible rfl))); (try simp only [Act.put, List.getElem_toArray, List.getElem_cons_succ, List.getElem_cons_zero, List.setIfInBounds_toArray, List.set_cons_zero, List.set_cons_succ])
  (refine wpAnyH_take (i := 2) (v := ?_) rfl (by kernel_rfl) (by kernel_rfl) (by kernel_rfl) (fun _ _ _ h => h) (Or.inl ⟨rfl, ?_⟩) (by assumption) ?_; rotate_left; focus (intro W hSw; (try dsimp only at hSw); have hxx := HXX.out _ hSw; obtain ⟨hxX, hxY⟩ := hxx; obtain ⟨⟨iX0, iX1, iX2⟩, _, _⟩ := hxX; obtain ⟨⟨iY0, iY1, iY2⟩, _, _⟩ := hxY; go_simp; try (with_reducible rfl))); (try simp only [Act.put, List.getElem_toArray, List.getElem_cons_succ, List.getElem_cons_zero, List.setIfInBounds_toArray, List.set_cons_zero, List.set_cons_succ])
  refine wpAnyH_ready (rs := [1]) (by kernel_rfl) (by simp) ?_; refine AllReadyH.cons rfl (fun K hK => ?_) AllReadyH.nil
  go_simp; (go_at_call 80; refine (HC1.out _).mono ?_; rintro en ywr52x0 ⟨v, rfl, hv, hb2⟩); obtain ⟨va, vc, rfl⟩ := viewT hv; obtain ⟨n, hn⟩ : ∃ n, (cyT (u0, u1, u2)).length = n := ⟨_, rfl⟩; rw [hn] at hv ⊢; have HL := Lib.hid hv; clear hv hn; have HX := Lib.hid (HX.out.below hb2); have HY := Lib.hid (HY.out.below hb2); refine hK.out _ _ (below_after hb2 hHeld) (fun hHeld2 => ?_); clear hb2; (clear hHeld; rename _ => hHeld; clear hK K; have hHeld : Below ywr2x1.heap.size ywr2x1 _ := hHeld); (try simp only [Act.put, List.getElem_toArray, List.getElem_cons_succ, List.getElem_cons_zero, List.setIfInBounds_toArray, List.set_cons_zero, List.set_cons_succ])
  refine wpAnyH_ready (rs := [3]) (by kernel_rfl) (by simp) ?_; refine AllReadyH.cons rfl (fun K hK => ?_) AllReadyH.nil
  go_simp; (go_at_call 80; refine (HC2.out _).mono ?_; rintro en ywr52x1 ⟨v, rfl, hv, hb2⟩); obtain ⟨va2, vc2, rfl, ff⟩ := viewOwnFo hv; obtain ⟨g2, rfl, _⟩ := ff (by simp [cyT]); clear ff; obtain ⟨m, hm⟩ : ∃ n, (cyT (z0, z1, z2)).length = n := ⟨_, rfl⟩; have hmp : 0 < m := (by rw [← hm]; simp [cyT]); rw [hm] at hv ⊢; have HM := Lib.hid hv; clear hv hm; have HX := Lib.hid (HX.out.below hb2); have HY := Lib.hid (HY.out.below hb2); have HL := Lib.hid (HL.out.below hb2); refine hK.out _ _ (below_after hb2 hHeld) (fun hHeld2 => ?_); clear hb2; (clear hHeld; rename _ => hHeld; clear hK K; have hHeld : Below ywr2x1.heap.size ywr2x1 _ := hHeld); (try simp only [Act.put, List.getElem_toArray, List.getElem_cons_succ, List.getElem_cons_zero, List.setIfInBounds_toArray, List.set_cons_zero, List.set_cons_succ])
  (refine wpAnyH_take (i := 4) (v := ?_) rfl (by kernel_rfl) (by kernel_rfl) (by kernel_rfl) (fun _ _ _ h => h) (Or.inl ⟨rfl, ?_⟩) (by assumption) ?_; rotate_left; focus (intro W hSw; (try dsimp only at hSw); have hxx := HXX.out _ hSw; obtain ⟨hxX, hxY⟩ := hxx; obtain ⟨⟨iX0, iX1, iX2⟩, _, _⟩ := hxX; obtain ⟨⟨iY0, iY1, iY2⟩, _, _⟩ := hxY; go_simp; try (with_reducible rfl))); (try simp only [Act.put, List.getElem_toArray, List.getElem_cons_succ, List.getElem_cons_zero, List.setIfInBounds_toArray, List.set_cons_zero, List.set_cons_succ])
  refine wpAnyH_ready (rs := [5]) (by kernel_rfl) (by simp) ?_; refine AllReadyH.cons rfl (fun K hK => ?_) AllReadyH.nil
  obtain ⟨r0, r1, r2⟩ := headT HM.out (x := (z0, z1, z2)) rfl; go_simp; clear r0 r1 r2; refine hK.out _ _ hHeld (fun hHeld2 => ?_); (clear hHeld; rename _ => hHeld; clear hK K; have hHeld : Below ywr2x1.heap.size ywr2x1 _ := hHeld); (try simp only [Act.put, List.getElem_toArray, List.getElem_cons_succ, List.getElem_cons_zero, List.setIfInBounds_toArray, List.set_cons_zero, List.set_cons_succ])
  refine wpAnyH_ready (rs := [6]) (by kernel_rfl) (by simp) ?_; refine AllReadyH.cons rfl (fun K hK => ?_) AllReadyH.nil
  go_simp; (go_at_call 83; refine (l06Has_any _ _ _ _ _ _ _ HL.out HLN.out).mono ?_; rintro en ywr52x3 ⟨rfl, hb2⟩); have HX := Lib.hid (HX.out.below hb2); have HY := Lib.hid (HY.out.below hb2); have HL := Lib.hid (HL.out.below hb2); have HM := Lib.hid (HM.out.below hb2); refine hK.out _ _ (below_after hb2 hHeld) (fun hHeld2 => ?_); clear hb2; (clear hHeld; rename _ => hHeld; clear hK K; have hHeld : Below ywr2x1.heap.size ywr2x1 _ := hHeld); (try simp only [Act.put, List.getElem_toArray, List.getElem_cons_succ, List.getElem_cons_zero, List.setIfInBounds_toArray, List.set_cons_zero, List.set_cons_succ])
  (refine wpAnyH_take (i := 7) (v := ?_) rfl (by kernel_rfl) (by kernel_rfl) (by kernel_rfl) (fun _ _ _ h => h) (Or.inl ⟨rfl, ?_⟩) (by assumption) ?_; rotate_left; focus (intro W hSw; (try dsimp only at hSw); have hxx := HXX.out _ hSw; obtain ⟨hxX, hxY⟩ := hxx; obtain ⟨⟨iX0, iX1, iX2⟩, _, _⟩ := hxX; obtain ⟨⟨iY0, iY1, iY2⟩, _, _⟩ := hxY; go_simp; try (with_reducible rfl))); (try simp only [Act.put, List.getElem_toArray, List.getElem_cons_succ, List.getElem_cons_zero, List.setIfInBounds_toArray, List.set_cons_zero, List.set_cons_succ])
  (refine wpAnyH_take (i := 8) (v := ?_) rfl (by kernel_rfl) (by kernel_rfl) (by kernel_rfl) (fun _ _ _ h => h) (Or.inl ⟨rfl, ?_⟩) (by assumption) ?_; rotate_left; focus (intro W hSw; (try dsimp only at hSw); have hxx := HXX.out _ hSw; obtain ⟨hxX, hxY⟩ := hxx; obtain ⟨⟨iX0, iX1, iX2⟩, _, _⟩ := hxX; obtain ⟨⟨iY0, iY1, iY2⟩, _, _⟩ := hxY; go_simp; try (with_reducible rfl))); (try simp only [Act.put, List.getElem_toArray, List.getElem_cons_succ, List.getElem_cons_zero, List.setIfInBounds_toArray, List.set_cons_zero, List.set_cons_succ])
  refine wpAnyH_done (by kernel_rfl) ?_ _
  have HB := Lib.hid (HB.out.trans (hHeld.mono HB.out.size))
  clear hHeld HXX
  obtain ⟨⟨qX0, qX1, qX2⟩, ⟨fX0, fX1, fX2⟩, zX⟩ := HX.out
  obtain ⟨⟨qY0, qY1, qY2⟩, ⟨fY0, fY1, fY2⟩, zY⟩ := HY.out
  go_wp2_with fail
  refine bodyPost_ret (v := .tuple #[.bool (decide ((z0, z1, z2) ∈ cyT (u0, u1, u2))), .int .i64 0]) (by simp (maxDischargeDepth := 8) [results, Try.results43, go_sem, *]) rfl ?_
  have hb := HB.out
  exact ⟨rfl, by (repeat' (first | (with_reducible exact Below.refl _ _) | (with_reducible refine Below.alloc ?_ ?_ _) | (with_reducible refine Below.setCell ?_ ?_ _) | (with_reducible refine Below.drew ?_) | (with_reducible refine below_drewN ?_ _) | (with_reducible assumption) | (with_reducible refine below_after (by with_reducible assumption) ?_) | go_size))⟩
theorem impl_AreEquivalentForms_any (a b c d e f : Int) (w : World) : Calls Try.prog 44 #[.agg #[.int .i64 a, .int .i64 b, .int .i64 c], .agg #[.int .i64 d, .int .i64 e, .int .i64 f]] w fun e1 w' => e1 = .returned (.tuple #[.bool (aqV a b c d e f), .int .i64 (aqC a b c d e f)]) ∧ Below w.heap.size w w' := by
  cases hn : (isFm a b c && isFm d e f)
  · rw [show aqV a b c d e f = false from by unfold aqV; rw [hn]; rfl, show aqC a b c d e f = 1 from by unfold aqC; rw [hn]; rfl]
    exact impl_aq_no a b c d e f w hn
  · rw [show aqV a b c d e f = decide (frT (d, e, f) ∈ cyT (frT (a, b, c))) from by unfold aqV; rw [hn]; rfl, show aqC a b c d e f = 0 from by unfold aqC; rw [hn]; rfl]
    simp only [Bool.and_eq_true] at hn
    exact impl_aq_yes a b c d e f w hn.1 hn.2
theorem spec_AreEquivalentForms_any (a b c d e f : Int) (w : World) : Calls Try.prog 43 #[.agg #[.int .i64 a, .int .i64 b, .int .i64 c], .agg #[.int .i64 d, .int .i64 e, .int .i64 f]] w fun e1 w' => e1 = .returned (.tuple #[.bool (aqV a b c d e f), .int .i64 (aqC a b c d e f)]) ∧ Below w.heap.size w w' := by
  cases hn : (isFm a b c && isFm d e f)
  · rw [show aqV a b c d e f = false from by unfold aqV; rw [hn]; rfl, show aqC a b c d e f = 1 from by unfold aqC; rw [hn]; rfl]
    exact spec_aq_no a b c d e f w hn
  · rw [show aqV a b c d e f = decide (frT (d, e, f) ∈ cyT (frT (a, b, c))) from by unfold aqV; rw [hn]; rfl, show aqC a b c d e f = 0 from by unfold aqC; rw [hn]; rfl]
    simp only [Bool.and_eq_true] at hn
    by_cases hd : dT (a, b, c) = dT (d, e, f)
    · exact spec_aq_near a b c d e f w hn.1 hn.2 hd
    · rw [far_disc (x := (a, b, c)) (y := (d, e, f)) hn.1 hn.2 hd]
      exact spec_aq_far a b c d e f w hn.1 hn.2 hd
end Go.Proofs.Ytohnmogejidpdaa
