/-
  DigitsOf at all triples (own work; written by mkdg.py).
-/
import Derived.Test.YtbgifgfegndlkaaDgM
import Derived.Test.YtbgifgfegndlkaaTrQ
import Derived.RangeFuncRecord
namespace Go.Proofs.Ytbgifgfegndlkaa
open Go.ChangeShapes Go.WideShapes Go.ChangeAt Go.RowKit
set_option linter.unusedVariables false
set_option linter.unusedSimpArgs false
set_option maxRecDepth 100000

/-- What DigitsOf answers. -/
def dgA (a b c : Int) : List (List Int) × (Int × Int × Int) × Int := if isTr a b c = true then (if a = 0 then ([], (0, 0, 0), 2) else dg 62 [] a b c) else ([], (0, 0, 0), 1)
theorem dgA_no {a b c : Int} (h : isTr a b c = false) : dgA a b c = ([], (0, 0, 0), 1) := by unfold dgA; rw [h]; rfl
theorem dgA_zero {a b c : Int} (h : isTr a b c = true) (h0 : a = 0) : dgA a b c = ([], (0, 0, 0), 2) := by unfold dgA; rw [if_pos h, if_pos h0]
theorem dgA_go {a b c : Int} (h : isTr a b c = true) (h0 : ¬ a = 0) : dgA a b c = dg 62 [] a b c := by unfold dgA; rw [if_pos h, if_neg h0]
set_option maxHeartbeats 6400000 in
theorem impl_DigitsOf_any (a b c : Int) (w : World) : Calls Try.prog 42 #[.agg #[.int .i64 a, .int .i64 b, .int .i64 c]] w fun e w' => ∃ v vs, e = .returned (.tuple #[v, .agg #[.int .i64 (dgA a b c).2.1.1, .int .i64 (dgA a b c).2.1.2.1, .int .i64 (dgA a b c).2.1.2.2], .int .i64 (dgA a b c).2.2]) ∧ OwnSS w.heap.size w' v vs (dgA a b c).1 ∧ Below w.heap.size w w' := by
  have HI := Lib.hid (fun w => impl_IsTriple_any a b c w)
  have HNO := Lib.hid (@dgA_no a b c)
  have HZE := Lib.hid (@dgA_zero a b c)
  have HGO := Lib.hid (@dgA_go a b c)
  cases h : isTr a b c
  · rw [h] at HI
    rw [HNO.out h]
    clear h HNO HZE HGO
    obtain ⟨GT, hG⟩ : ∃ G, w.heap.size = G := ⟨_, rfl⟩
    have HG := Lib.hid hG
    go_enter Try.func42, Try.ntmps42
    go_upto_region 1 with fail
    obtain ⟨w0, hw0⟩ : ∃ w0, w0 = ((w.alloc (.cells #[.int .i64 a, .int .i64 b, .int .i64 c] 24)).alloc (.cells #[.int .i64 0, .int .i64 0, .int .i64 0] 24)) := ⟨_, rfl⟩
    rw [← hw0]
    have HT : Hid (Bk3 w0 GT a b c) := by
      have h := (bk3_new w a b c 24).below (W' := ((w.alloc (.cells #[.int .i64 a, .int .i64 b, .int .i64 c] 24)).alloc (.cells #[.int .i64 0, .int .i64 0, .int .i64 0] 24))) (by (repeat' (first | (with_reducible exact Below.refl _ _) | (with_reducible refine Below.alloc ?_ ?_ _) | (with_reducible refine Below.setCell ?_ ?_ _) | (with_reducible refine Below.drew ?_) | (with_reducible refine below_drewN ?_ _) | (with_reducible assumption) | (with_reducible refine below_after (by with_reducible assumption) ?_) | go_size)))
      (try simp only [World.size_alloc] at h)
      rw [hG] at h
      rw [hw0]; exact h
    have HR : Hid (Bk3 w0 (GT + 1) 0 0 0) := by
      have h := (bk3_new (w.alloc (.cells #[.int .i64 a, .int .i64 b, .int .i64 c] 24)) 0 0 0 24).below (W' := ((w.alloc (.cells #[.int .i64 a, .int .i64 b, .int .i64 c] 24)).alloc (.cells #[.int .i64 0, .int .i64 0, .int .i64 0] 24))) (by (repeat' (first | (with_reducible exact Below.refl _ _) | (with_reducible refine Below.alloc ?_ ?_ _) | (with_reducible refine Below.setCell ?_ ?_ _) | (with_reducible refine Below.drew ?_) | (with_reducible refine below_drewN ?_ _) | (with_reducible assumption) | (with_reducible refine below_after (by with_reducible assumption) ?_) | go_size)))
      (try simp only [World.size_alloc] at h)
      rw [hG] at h
      rw [hw0]; exact h
    have HB : Hid (Below w.heap.size w w0) := by show Below w.heap.size w w0; rw [hw0]; (repeat' (first | (with_reducible exact Below.refl _ _) | (with_reducible refine Below.alloc ?_ ?_ _) | (with_reducible refine Below.setCell ?_ ?_ _) | (with_reducible refine Below.drew ?_) | (with_reducible refine below_drewN ?_ _) | (with_reducible assumption) | (with_reducible refine below_after (by with_reducible assumption) ?_) | go_size))
    have HZ : Hid (GT + 2 ≤ w0.heap.size) := by show GT + 2 ≤ w0.heap.size; rw [hw0]; simp; omega
    clear hw0
    obtain ⟨GR, hGR⟩ : ∃ g, GT + 1 = g := ⟨_, rfl⟩
    rw [hGR] at HR ⊢
    have le_T : w.heap.size ≤ GT := by omega
    have le_R : w.heap.size ≤ GR := by omega
    have ne_R_T : GR ≠ GT := by omega
    have ne_T_R : GT ≠ GR := by omega
    obtain ⟨⟨qT0, qT1, qT2⟩, ⟨fT0, fT1, fT2⟩, zT⟩ := HT.out
    obtain ⟨⟨qR0, qR1, qR2⟩, ⟨fR0, fR1, fR2⟩, zR⟩ := HR.out
    go_wp2_with fail
    go_at_call 18
    refine (HI.out _).mono ?_
    rintro e w1 ⟨rfl, hb⟩
    clear qT0 fT0 qT1 fT1 qT2 fT2 zT qR0 fR0 qR1 fR1 qR2 fR2 zR
    have hs1 := hb.size
    have HT := Lib.hid (HT.out.below hb)
    have HR := Lib.hid (HR.out.below hb)
    have HB := Lib.hid (below_after hb HB.out)
    have HZ := Lib.hid (Nat.le_trans HZ.out hs1)
    clear hb
    obtain ⟨⟨qT0, qT1, qT2⟩, ⟨fT0, fT1, fT2⟩, zT⟩ := HT.out
    obtain ⟨⟨qR0, qR1, qR2⟩, ⟨fR0, fR1, fR2⟩, zR⟩ := HR.out
    go_wp2_with fail
    refine bodyPost_ret (v := .tuple #[.slice none 0 0, .agg #[.int .i64 0, .int .i64 0, .int .i64 0], .int .i64 1]) (by simp (maxDischargeDepth := 8) [results, Try.results42, go_sem, *]) rfl ?_
    have hb := HB.out
    exact ⟨.slice none 0 0, [], rfl, OwnSS.nil _ _, by (repeat' (first | (with_reducible exact Below.refl _ _) | (with_reducible refine Below.alloc ?_ ?_ _) | (with_reducible refine Below.setCell ?_ ?_ _) | (with_reducible refine Below.drew ?_) | (with_reducible refine below_drewN ?_ _) | (with_reducible assumption) | (with_reducible refine below_after (by with_reducible assumption) ?_) | go_size))⟩
  · rw [h] at HI
    obtain ⟨⟨ha0, ha1⟩, ⟨hb0, hb1⟩, ⟨hc0, hc1⟩, _⟩ := isTr_parts h
    by_cases hz : a = 0
    · rw [HZE.out h hz]
      have HAB : Hid ((a == 0) = true) := by show (a == 0) = true; simpa using hz
      clear h HNO HZE HGO hz
      obtain ⟨GT, hG⟩ : ∃ G, w.heap.size = G := ⟨_, rfl⟩
      have HG := Lib.hid hG
      go_enter Try.func42, Try.ntmps42
      go_upto_region 1 with fail
      obtain ⟨w0, hw0⟩ : ∃ w0, w0 = ((w.alloc (.cells #[.int .i64 a, .int .i64 b, .int .i64 c] 24)).alloc (.cells #[.int .i64 0, .int .i64 0, .int .i64 0] 24)) := ⟨_, rfl⟩
      rw [← hw0]
      have HT : Hid (Bk3 w0 GT a b c) := by
        have h := (bk3_new w a b c 24).below (W' := ((w.alloc (.cells #[.int .i64 a, .int .i64 b, .int .i64 c] 24)).alloc (.cells #[.int .i64 0, .int .i64 0, .int .i64 0] 24))) (by (repeat' (first | (with_reducible exact Below.refl _ _) | (with_reducible refine Below.alloc ?_ ?_ _) | (with_reducible refine Below.setCell ?_ ?_ _) | (with_reducible refine Below.drew ?_) | (with_reducible refine below_drewN ?_ _) | (with_reducible assumption) | (with_reducible refine below_after (by with_reducible assumption) ?_) | go_size)))
        (try simp only [World.size_alloc] at h)
        rw [hG] at h
        rw [hw0]; exact h
      have HR : Hid (Bk3 w0 (GT + 1) 0 0 0) := by
        have h := (bk3_new (w.alloc (.cells #[.int .i64 a, .int .i64 b, .int .i64 c] 24)) 0 0 0 24).below (W' := ((w.alloc (.cells #[.int .i64 a, .int .i64 b, .int .i64 c] 24)).alloc (.cells #[.int .i64 0, .int .i64 0, .int .i64 0] 24))) (by (repeat' (first | (with_reducible exact Below.refl _ _) | (with_reducible refine Below.alloc ?_ ?_ _) | (with_reducible refine Below.setCell ?_ ?_ _) | (with_reducible refine Below.drew ?_) | (with_reducible refine below_drewN ?_ _) | (with_reducible assumption) | (with_reducible refine below_after (by with_reducible assumption) ?_) | go_size)))
        (try simp only [World.size_alloc] at h)
        rw [hG] at h
        rw [hw0]; exact h
      have HB : Hid (Below w.heap.size w w0) := by show Below w.heap.size w w0; rw [hw0]; (repeat' (first | (with_reducible exact Below.refl _ _) | (with_reducible refine Below.alloc ?_ ?_ _) | (with_reducible refine Below.setCell ?_ ?_ _) | (with_reducible refine Below.drew ?_) | (with_reducible refine below_drewN ?_ _) | (with_reducible assumption) | (with_reducible refine below_after (by with_reducible assumption) ?_) | go_size))
      have HZ : Hid (GT + 2 ≤ w0.heap.size) := by show GT + 2 ≤ w0.heap.size; rw [hw0]; simp; omega
      clear hw0
      obtain ⟨GR, hGR⟩ : ∃ g, GT + 1 = g := ⟨_, rfl⟩
      rw [hGR] at HR ⊢
      have le_T : w.heap.size ≤ GT := by omega
      have le_R : w.heap.size ≤ GR := by omega
      have ne_R_T : GR ≠ GT := by omega
      have ne_T_R : GT ≠ GR := by omega
      obtain ⟨⟨qT0, qT1, qT2⟩, ⟨fT0, fT1, fT2⟩, zT⟩ := HT.out
      obtain ⟨⟨qR0, qR1, qR2⟩, ⟨fR0, fR1, fR2⟩, zR⟩ := HR.out
      go_wp2_with fail
      go_at_call 18
      refine (HI.out _).mono ?_
      rintro e w1 ⟨rfl, hb⟩
      clear qT0 fT0 qT1 fT1 qT2 fT2 zT qR0 fR0 qR1 fR1 qR2 fR2 zR
      have hs1 := hb.size
      have HT := Lib.hid (HT.out.below hb)
      have HR := Lib.hid (HR.out.below hb)
      have HB := Lib.hid (below_after hb HB.out)
      have HZ := Lib.hid (Nat.le_trans HZ.out hs1)
      clear hb
      obtain ⟨⟨qT0, qT1, qT2⟩, ⟨fT0, fT1, fT2⟩, zT⟩ := HT.out
      obtain ⟨⟨qR0, qR1, qR2⟩, ⟨fR0, fR1, fR2⟩, zR⟩ := HR.out
      have hab := HAB.out
      go_wp2_with fail
      refine bodyPost_ret (v := .tuple #[.slice none 0 0, .agg #[.int .i64 0, .int .i64 0, .int .i64 0], .int .i64 2]) (by simp (maxDischargeDepth := 8) [results, Try.results42, go_sem, *]) rfl ?_
      have hb := HB.out
      exact ⟨.slice none 0 0, [], rfl, OwnSS.nil _ _, by (repeat' (first | (with_reducible exact Below.refl _ _) | (with_reducible refine Below.alloc ?_ ?_ _) | (with_reducible refine Below.setCell ?_ ?_ _) | (with_reducible refine Below.drew ?_) | (with_reducible refine below_drewN ?_ _) | (with_reducible assumption) | (with_reducible refine below_after (by with_reducible assumption) ?_) | go_size))⟩
    · have HD := Lib.hid (HGO.out h hz)
      rw [HD.out]
      have hab : (a == 0) = false := by simpa using hz
      obtain ⟨D, hD⟩ : ∃ D, dg 62 [] a b c = D := ⟨_, rfl⟩
      have HDD := Lib.hid hD
      rw [hD]
      clear h HNO HZE HGO HD hD
      obtain ⟨GT, hG⟩ : ∃ G, w.heap.size = G := ⟨_, rfl⟩
      have HG := Lib.hid hG
      go_enter Try.func42, Try.ntmps42
      go_upto_region 1 with fail
      obtain ⟨w0, hw0⟩ : ∃ w0, w0 = ((w.alloc (.cells #[.int .i64 a, .int .i64 b, .int .i64 c] 24)).alloc (.cells #[.int .i64 0, .int .i64 0, .int .i64 0] 24)) := ⟨_, rfl⟩
      rw [← hw0]
      have HT : Hid (Bk3 w0 GT a b c) := by
        have h := (bk3_new w a b c 24).below (W' := ((w.alloc (.cells #[.int .i64 a, .int .i64 b, .int .i64 c] 24)).alloc (.cells #[.int .i64 0, .int .i64 0, .int .i64 0] 24))) (by (repeat' (first | (with_reducible exact Below.refl _ _) | (with_reducible refine Below.alloc ?_ ?_ _) | (with_reducible refine Below.setCell ?_ ?_ _) | (with_reducible refine Below.drew ?_) | (with_reducible refine below_drewN ?_ _) | (with_reducible assumption) | (with_reducible refine below_after (by with_reducible assumption) ?_) | go_size)))
        (try simp only [World.size_alloc] at h)
        rw [hG] at h
        rw [hw0]; exact h
      have HR : Hid (Bk3 w0 (GT + 1) 0 0 0) := by
        have h := (bk3_new (w.alloc (.cells #[.int .i64 a, .int .i64 b, .int .i64 c] 24)) 0 0 0 24).below (W' := ((w.alloc (.cells #[.int .i64 a, .int .i64 b, .int .i64 c] 24)).alloc (.cells #[.int .i64 0, .int .i64 0, .int .i64 0] 24))) (by (repeat' (first | (with_reducible exact Below.refl _ _) | (with_reducible refine Below.alloc ?_ ?_ _) | (with_reducible refine Below.setCell ?_ ?_ _) | (with_reducible refine Below.drew ?_) | (with_reducible refine below_drewN ?_ _) | (with_reducible assumption) | (with_reducible refine below_after (by with_reducible assumption) ?_) | go_size)))
        (try simp only [World.size_alloc] at h)
        rw [hG] at h
        rw [hw0]; exact h
      have HB : Hid (Below w.heap.size w w0) := by show Below w.heap.size w w0; rw [hw0]; (repeat' (first | (with_reducible exact Below.refl _ _) | (with_reducible refine Below.alloc ?_ ?_ _) | (with_reducible refine Below.setCell ?_ ?_ _) | (with_reducible refine Below.drew ?_) | (with_reducible refine below_drewN ?_ _) | (with_reducible assumption) | (with_reducible refine below_after (by with_reducible assumption) ?_) | go_size))
      have HZ : Hid (GT + 2 ≤ w0.heap.size) := by show GT + 2 ≤ w0.heap.size; rw [hw0]; simp; omega
      clear hw0
      obtain ⟨GR, hGR⟩ : ∃ g, GT + 1 = g := ⟨_, rfl⟩
      rw [hGR] at HR ⊢
      have le_T : w.heap.size ≤ GT := by omega
      have le_R : w.heap.size ≤ GR := by omega
      have ne_R_T : GR ≠ GT := by omega
      have ne_T_R : GT ≠ GR := by omega
      obtain ⟨⟨qT0, qT1, qT2⟩, ⟨fT0, fT1, fT2⟩, zT⟩ := HT.out
      obtain ⟨⟨qR0, qR1, qR2⟩, ⟨fR0, fR1, fR2⟩, zR⟩ := HR.out
      go_wp2_with fail
      go_at_call 18
      refine (HI.out _).mono ?_
      rintro e w1 ⟨rfl, hb⟩
      clear qT0 fT0 qT1 fT1 qT2 fT2 zT qR0 fR0 qR1 fR1 qR2 fR2 zR
      have hs1 := hb.size
      have HT := Lib.hid (HT.out.below hb)
      have HR := Lib.hid (HR.out.below hb)
      have HB := Lib.hid (below_after hb HB.out)
      have HZ := Lib.hid (Nat.le_trans HZ.out hs1)
      clear hb
      obtain ⟨⟨qT0, qT1, qT2⟩, ⟨fT0, fT1, fT2⟩, zT⟩ := HT.out
      obtain ⟨⟨qR0, qR1, qR2⟩, ⟨fR0, fR1, fR2⟩, zR⟩ := HR.out
      go_wp2_with fail
      obtain ⟨B1, hB1⟩ : ∃ B, GT + 2 = B := ⟨_, rfl⟩
      rw [hB1] at HZ
      have hTB : GT < B1 := by omega
      have hRB : GR < B1 := by omega
      have hwB : w.heap.size ≤ B1 := by omega
      clear hB1 hGR
      clear qT0 fT0 qT1 fT1 qT2 fT2 zT qR0 fR0 qR1 fR1 qR2 fR2 zR
      go_loopw [5, 6, 7] (fun v kk ll wr => ∃ (f : Nat) (ps : List (List Int)) (vs : List Value) (x y z : Int), f + ps.length = 62 ∧ ps.length ≤ 60 ∧ dg f ps x y z = D ∧ OwnSS B1 wr v vs ps ∧ Bk3 wr GT x y z ∧ Bk3 wr GR 0 0 0 ∧ (0 ≤ x ∧ x ≤ 1000000) ∧ (0 ≤ y ∧ y ≤ 1000000) ∧ (0 ≤ z ∧ z ≤ 1000000) ∧ B1 ≤ wr.heap.size ∧ Below w.heap.size w wr) (fun v _ _ _ => 62 - lenL v)
      case atStart => exact ⟨62, [], [], a, b, c, rfl, by simp, HDD.out, OwnSS.nil _ _, HT.out, HR.out, ⟨ha0, ha1⟩, ⟨hb0, hb1⟩, ⟨hc0, hc1⟩, HZ.out, HB.out⟩
      case round =>
        obtain ⟨f, ps, vs, x, y, z, hf, hpl, hdg, hown, hT, hR, ⟨hx0, hx1⟩, ⟨hy0, hy1⟩, ⟨hz0, hz1⟩, hsz, hbel⟩ := hrel
        have HDG := Lib.hid hdg
        have HO := Lib.hid hown
        have HT := Lib.hid hT
        have HR := Lib.hid hR
        have HB := Lib.hid hbel
        obtain ⟨⟨qT0, qT1, qT2⟩, ⟨fT0, fT1, fT2⟩, zT⟩ := hT
        obtain ⟨⟨qR0, qR1, qR2⟩, ⟨fR0, fR1, fR2⟩, zR⟩ := hR
        obtain ⟨g, rfl⟩ : ∃ g, f = g + 1 := ⟨f - 1, by omega⟩
        obtain ⟨av, cv, rfl, _⟩ := hown.view
        obtain ⟨n, hn⟩ : ∃ n, ps.length = n := ⟨_, rfl⟩
        have HN := Lib.hid hn
        rw [hn] at hf hpl HO ⊢
        clear hdg hown hbel hn
        by_cases hx : x < 1
        · have hge : decide (1 ≤ x) = false := by simp; omega
          have HE : Hid (D = (ps, (x, y, z), 0)) := by show _ = _; rw [← HDG.out]; exact dg_end hx
          go_wp2_with fail
          go_region
          all_goals
            go_wp2
            refine bodyPost_ret (v := .tuple #[.slice av n cv, .agg #[.int .i64 x, .int .i64 y, .int .i64 z], .int .i64 0]) (by simp (maxDischargeDepth := 8) [results, Try.results42, go_sem, *]) rfl ?_
            have hb := HB.out
            rw [HE.out]
            refine ⟨.slice av n cv, vs, rfl, OwnSS.mono ?_ hwB, by (repeat' (first | (with_reducible exact Below.refl _ _) | (with_reducible refine Below.alloc ?_ ?_ _) | (with_reducible refine Below.setCell ?_ ?_ _) | (with_reducible refine Below.drew ?_) | (with_reducible refine below_drewN ?_ _) | (with_reducible assumption) | (with_reducible refine below_after (by with_reducible assumption) ?_) | go_size))⟩
            repeat (refine OwnSS.far ?_ _ _ hRB)
            exact HO.out.below (by (repeat' (first | (with_reducible exact Below.refl _ _) | (with_reducible refine Below.alloc ?_ ?_ _) | (with_reducible refine Below.setCell ?_ ?_ _) | (with_reducible refine Below.drew ?_) | (with_reducible refine below_drewN ?_ _) | (with_reducible assumption) | (with_reducible refine below_after (by with_reducible assumption) ?_) | go_size)))
        · have hge : decide (1 ≤ x) = true := by simp; omega
          by_cases hp : n = 60
          · have hpe : ((n : Int) == 60) = true := by simp; omega
            have HE : Hid (D = ([], (0, 0, 0), 3)) := by show _ = _; rw [← HDG.out]; exact dg_lim hx (by rw [HN.out]; exact hp)
            go_wp2_with fail
            refine bodyPost_ret (v := .tuple #[.slice none 0 0, .agg #[.int .i64 0, .int .i64 0, .int .i64 0], .int .i64 3]) (by simp (maxDischargeDepth := 8) [results, Try.results42, go_sem, *]) rfl ?_
            have hb := HB.out
            rw [HE.out]
            first
              | exact ⟨.slice none 0 0, [], rfl, OwnSS.nil _ _, by (repeat' (first | (with_reducible exact Below.refl _ _) | (with_reducible refine Below.alloc ?_ ?_ _) | (with_reducible refine Below.setCell ?_ ?_ _) | (with_reducible refine Below.drew ?_) | (with_reducible refine below_drewN ?_ _) | (with_reducible assumption) | (with_reducible refine below_after (by with_reducible assumption) ?_) | go_size))⟩
              | exact ⟨.slice none 0 0, rfl, ⟨[], OwnSS.nil _ _⟩, by (rw [← hG]; (repeat' (first | (with_reducible exact Below.refl _ _) | (with_reducible refine Below.alloc ?_ ?_ _) | (with_reducible refine Below.setCell ?_ ?_ _) | (with_reducible refine Below.drew ?_) | (with_reducible refine below_drewN ?_ _) | (with_reducible assumption) | (with_reducible refine below_after (by with_reducible assumption) ?_) | go_size)))⟩
              | exact ⟨.slice none 0 0, rfl, ⟨[], OwnSS.nil _ _⟩, by (repeat' (first | (with_reducible exact Below.refl _ _) | (with_reducible refine Below.alloc ?_ ?_ _) | (with_reducible refine Below.setCell ?_ ?_ _) | (with_reducible refine Below.drew ?_) | (with_reducible refine below_drewN ?_ _) | (with_reducible assumption) | (with_reducible refine below_after (by with_reducible assumption) ?_) | go_size))⟩
          · have hpe : ((n : Int) == 60) = false := by simp; omega
            have HE := Lib.hid (dg_go (f := g) (ps := ps) (x := x) (y := y) (z := z) hx (by rw [HN.out]; exact hp))
            rw [HDG.out] at HE
            obtain ⟨k0, k1, k2, k3, k4, k5⟩ := dg_step (show 1 ≤ x by omega) hx1 hy0 hy1
            obtain ⟨l0, l1, l2, l3, l4, l5⟩ := dg_step (show 1 ≤ x by omega) hx1 hz0 hz1
            have td1 : y.tdiv x = y / x := Int.tdiv_eq_ediv_of_nonneg hy0
            have td2 : z.tdiv x = z / x := Int.tdiv_eq_ediv_of_nonneg hz0
            obtain ⟨P, hP⟩ : ∃ P, y / x * x = P := ⟨_, rfl⟩
            obtain ⟨Q, hQ⟩ : ∃ Q, z / x * x = Q := ⟨_, rfl⟩
            rw [hP] at k2 k3 k4 k5 HE
            rw [hQ] at l2 l3 l4 l5 HE
            obtain ⟨K, hK⟩ : ∃ K, y / x = K := ⟨_, rfl⟩
            obtain ⟨L, hL⟩ : ∃ L, z / x = L := ⟨_, rfl⟩
            rw [hK] at k0 k1 td1 HE hP
            rw [hL] at l0 l1 td2 HE hQ
            have hx0b : (x == 0) = false := by simp; omega
            have r1 : IntKind.i64.wrap K = K := by rw [IntKind.wrap_i64]; omega
            have r2 : IntKind.i64.wrap L = L := by rw [IntKind.wrap_i64]; omega
            have r3 : IntKind.i64.wrap P = P := by rw [IntKind.wrap_i64]; omega
            have r4 : IntKind.i64.wrap Q = Q := by rw [IntKind.wrap_i64]; omega
            have r5 : IntKind.i64.wrap (y - P) = y - P := by rw [IntKind.wrap_i64]; omega
            have r6 : IntKind.i64.wrap (z - Q) = z - Q := by rw [IntKind.wrap_i64]; omega
            have hp2 : n + 1 ≤ 60 := by omega
            clear hK hL hp
            go_wp2_with fail
            go_quiet (fail)
            have hsW : wr.heap.size = (wr.drewN nq).heap.size := rfl
            have HT := Lib.hid (HT.out.below (W' := wr.drewN nq) (by (repeat' (first | (with_reducible exact Below.refl _ _) | (with_reducible refine Below.alloc ?_ ?_ _) | (with_reducible refine Below.setCell ?_ ?_ _) | (with_reducible refine Below.drew ?_) | (with_reducible refine below_drewN ?_ _) | (with_reducible assumption) | (with_reducible refine below_after (by with_reducible assumption) ?_) | go_size))))
            have HR := Lib.hid (HR.out.below (W' := wr.drewN nq) (by (repeat' (first | (with_reducible exact Below.refl _ _) | (with_reducible refine Below.alloc ?_ ?_ _) | (with_reducible refine Below.setCell ?_ ?_ _) | (with_reducible refine Below.drew ?_) | (with_reducible refine below_drewN ?_ _) | (with_reducible assumption) | (with_reducible refine below_after (by with_reducible assumption) ?_) | go_size))))
            have HO := Lib.hid (HO.out.below (w' := wr.drewN nq) (by (repeat' (first | (with_reducible exact Below.refl _ _) | (with_reducible refine Below.alloc ?_ ?_ _) | (with_reducible refine Below.setCell ?_ ?_ _) | (with_reducible refine Below.drew ?_) | (with_reducible refine below_drewN ?_ _) | (with_reducible assumption) | (with_reducible refine below_after (by with_reducible assumption) ?_) | go_size))))
            have HB := Lib.hid (below_after (show Below wr.heap.size wr (wr.drewN nq) by (repeat' (first | (with_reducible exact Below.refl _ _) | (with_reducible refine Below.alloc ?_ ?_ _) | (with_reducible refine Below.setCell ?_ ?_ _) | (with_reducible refine Below.drew ?_) | (with_reducible refine below_drewN ?_ _) | (with_reducible assumption) | (with_reducible refine below_after (by with_reducible assumption) ?_) | go_size))) HB.out)
            obtain ⟨w2, hw2⟩ : ∃ w2, wr.drewN nq = w2 := ⟨_, rfl⟩
            rw [hw2] at HT HR HO HB hsW ⊢
            rw [hsW] at hsz
            clear hsW hw2 qT0 qT1 qT2 fT0 fT1 fT2 zT qR0 qR1 qR2 fR0 fR1 fR2 zR
            have HAP : Hid (OwnSS B1 ((w2.alloc (.cells #[.int .i64 K, .int .i64 L] 2)).alloc (.cells #[.slice (some ⟨w2.heap.size, 0, none⟩) 2 2] 60)) (.slice av n cv) vs ps) := HO.out.below (by (repeat' (first | (with_reducible exact Below.refl _ _) | (with_reducible refine Below.alloc ?_ ?_ _) | (with_reducible refine Below.setCell ?_ ?_ _) | (with_reducible refine Below.drew ?_) | (with_reducible refine below_drewN ?_ _) | (with_reducible assumption) | (with_reducible refine below_after (by with_reducible assumption) ?_) | go_size)))
            have HNW : Hid (OwnI B1 ((w2.alloc (.cells #[.int .i64 K, .int .i64 L] 2)).alloc (.cells #[.slice (some ⟨w2.heap.size, 0, none⟩) 2 2] 60)) (.slice (some ⟨w2.heap.size, 0, none⟩) 2 2) [K, L]) := by
              refine ownI_new K L ?_ hsz
              rw [Below.heap_alloc _ _ _ (by simp)]
              exact World.alloc_heap_new _ _
            have HFR : Hid (∀ i, i < ps.length → (vs.getD i .nilIface).ownBlock ≠ some w2.heap.size) := fun i hi e => by
              have := (World.ownsRow.lt (HO.out.2.1 i hi) _ e).2
              omega
            have hplen : ps.length + 1 ≤ 4194304 := by rw [HN.out]; omega
            go_wp2_with (at_builtin; refine wpList_app_SS rfl _ _ rfl HAP.out (by go_cell) HNW.out HFR.out (by simp; omega) rfl rfl hplen ?_; intro v3 w3 hown3 hgr hlb; have hbA : Below w.heap.size w ((w2.alloc (.cells #[.int .i64 K, .int .i64 L] 2)).alloc (.cells #[.slice (some ⟨w2.heap.size, 0, none⟩) 2 2] 60)) := ((HB.out.alloc HB.out.size _).alloc (by (have := HB.out.size; simp; omega)) _); have hb3 : Below w.heap.size w w3 := Below.grown hbA hgr hbA.size (fun b hb => Nat.le_trans hwB (hlb b hb)); have HT3 := Lib.hid (((HT.out.below (W' := (w2.alloc (.cells #[.int .i64 K, .int .i64 L] 2)).alloc (.cells #[.slice (some ⟨w2.heap.size, 0, none⟩) 2 2] 60)) (by (repeat' (first | (with_reducible exact Below.refl _ _) | (with_reducible refine Below.alloc ?_ ?_ _) | (with_reducible refine Below.setCell ?_ ?_ _) | (with_reducible refine Below.drew ?_) | (with_reducible refine below_drewN ?_ _) | (with_reducible assumption) | (with_reducible refine below_after (by with_reducible assumption) ?_) | go_size))))).same (hgr.block GT (by (have := HT.out.2.2; simp; omega)) (fun e => by (have := hlb GT e.symm; omega)))); have HR3 := Lib.hid (((HR.out.below (W' := (w2.alloc (.cells #[.int .i64 K, .int .i64 L] 2)).alloc (.cells #[.slice (some ⟨w2.heap.size, 0, none⟩) 2 2] 60)) (by (repeat' (first | (with_reducible exact Below.refl _ _) | (with_reducible refine Below.alloc ?_ ?_ _) | (with_reducible refine Below.setCell ?_ ?_ _) | (with_reducible refine Below.drew ?_) | (with_reducible refine below_drewN ?_ _) | (with_reducible assumption) | (with_reducible refine below_after (by with_reducible assumption) ?_) | go_size))))).same (hgr.block GR (by (have := HR.out.2.2; simp; omega)) (fun e => by (have := hlb GR e.symm; omega)))); have hs3 : B1 ≤ w3.heap.size := Nat.le_trans hsz (Nat.le_trans (by simp; omega) hgr.size); have HO3 := Lib.hid hown3; have HB3 := Lib.hid hb3; obtain ⟨⟨qT0, qT1, qT2⟩, ⟨fT0, fT1, fT2⟩, zT⟩ := HT3.out; clear hown3 hgr hlb hbA hb3)
            go_roundw
            case rel =>
              have hb := HB3.out
              exact ⟨g, ps ++ [[K, L]], _, y - P, z - Q, x, by rw [List.length_append, List.length_singleton, HN.out]; omega, by rw [List.length_append, List.length_singleton, HN.out]; omega, HE.out.symm, ((HO3.out.far _ _ hTB).far _ _ hTB).far _ _ hTB, ((HT3.out.set0 _).set1 _).set2 _, ((HR3.out.far _ _ ne_R_T).far _ _ ne_R_T).far _ _ ne_R_T, ⟨k4, k5⟩, ⟨l4, l5⟩, ⟨hx0, hx1⟩, by simpa using hs3, by (repeat' (first | (with_reducible exact Below.refl _ _) | (with_reducible refine Below.alloc ?_ ?_ _) | (with_reducible refine Below.setCell ?_ ?_ _) | (with_reducible refine Below.drew ?_) | (with_reducible refine below_drewN ?_ _) | (with_reducible assumption) | (with_reducible refine below_after (by with_reducible assumption) ?_) | go_size))⟩
            case measure =>
              have h1 := HO3.out.len
              rw [h1, List.length_append, List.length_singleton, HN.out]
              simp only [lenL]
              omega
end Go.Proofs.Ytbgifgfegndlkaa
