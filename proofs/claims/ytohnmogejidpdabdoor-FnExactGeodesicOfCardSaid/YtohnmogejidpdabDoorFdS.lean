/-
  Levels down the tree, in the model (own work).
-/
import Derived.Test.YtohnmogejidpdabDoorFdL
namespace Go.Proofs.YtohnmogejidpdabDoor
open Go.ChangeShapes Go.WideShapes Go.ChangeAt Go.RowKit
set_option linter.unusedVariables false
set_option maxRecDepth 100000
set_option linter.unusedSimpArgs false
set_option maxRecDepth 100000

/-- Where the model stands: (P, Q) is x times (l0, l1) and y times (r0, r1) together. -/
def St (P Q l0 l1 r0 r1 x y : Int) : Prop := P = x * l0 + y * r0 ∧ Q = x * l1 + y * r1 ∧ l0 * r1 - l1 * r0 = -1 ∧ 1 ≤ x ∧ 1 ≤ y ∧ 1 ≤ l1 ∧ 1 ≤ r1 ∧ ((0 ≤ l0 ∧ 0 ≤ r0) ∨ (l0 ≤ 0 ∧ r0 ≤ 0))
theorem st_det {P Q l0 l1 r0 r1 x y : Int} (h : St P Q l0 l1 r0 r1 x y) : P * (l1 + r1) - Q * (l0 + r0) = y - x := by
  obtain ⟨h1, h2, h3, _⟩ := h
  have e : P * (l1 + r1) - Q * (l0 + r0) = (y - x) * -(l0 * r1 - l1 * r0) := by rw [h1, h2]; grind
  rw [e, h3]; omega
theorem st_left {P Q l0 l1 r0 r1 x y : Int} (h : St P Q l0 l1 r0 r1 x y) (k : x < y) : St P Q (l0 + r0) (l1 + r1) r0 r1 x (y - x) := by
  obtain ⟨h1, h2, h3, h4, h5, h6, h7, h8⟩ := h
  refine ⟨by rw [h1]; grind, by rw [h2]; grind, by rw [← h3]; grind, h4, by omega, by omega, h7, by omega⟩
theorem st_right {P Q l0 l1 r0 r1 x y : Int} (h : St P Q l0 l1 r0 r1 x y) (k : y < x) : St P Q l0 l1 (l0 + r0) (l1 + r1) (x - y) y := by
  obtain ⟨h1, h2, h3, h4, h5, h6, h7, h8⟩ := h
  refine ⟨by rw [h1]; grind, by rw [h2]; grind, by rw [← h3]; grind, by omega, h5, h6, by omega, by omega⟩
theorem le_mul1 {x a : Int} (hx : 1 ≤ x) (ha : 0 ≤ a) : a ≤ x * a := by
  have := Int.mul_le_mul_of_nonneg_right hx ha
  omega
theorem st_bd {P Q l0 l1 r0 r1 x y : Int} (h : St P Q l0 l1 r0 r1 x y) (hP1 : -1000000 ≤ P) (hP2 : P ≤ 1000000) : l1 + r1 ≤ Q ∧ -1000000 ≤ l0 + r0 ∧ l0 + r0 ≤ 1000000 ∧ -1000000 ≤ l0 ∧ l0 ≤ 1000000 ∧ -1000000 ≤ r0 ∧ r0 ≤ 1000000 := by
  obtain ⟨h1, h2, h3, h4, h5, h6, h7, h8⟩ := h
  have a1 := le_mul1 h4 (by omega : 0 ≤ l1)
  have a2 := le_mul1 h5 (by omega : 0 ≤ r1)
  rcases h8 with ⟨p, q⟩ | ⟨p, q⟩
  · have b1 := le_mul1 h4 p
    have b2 := le_mul1 h5 q
    omega
  · have b1 := le_mul1 h4 (by omega : 0 ≤ -l0)
    have b2 := le_mul1 h5 (by omega : 0 ≤ -r0)
    rw [Int.mul_neg] at b1 b2
    omega
theorem st_first {P Q : Int} (hQ : 2 ≤ Q) (hg : Int.gcd P Q = 1) : St P Q (P / Q) 1 (P / Q + 1) 1 (Q - P % Q) (P % Q) ∧ 1 ≤ P % Q ∧ P % Q < Q := by
  have hd := Int.emod_add_mul_ediv P Q
  have m0 := Int.emod_nonneg P (by omega : Q ≠ 0)
  have m1 := Int.emod_lt_of_pos P (by omega : 0 < Q)
  have hgg : Int.gcd Q (P % Q) = 1 := (gcd_emod P Q).trans hg
  have hs : 1 ≤ P % Q := by
    rcases Int.lt_or_le (P % Q) 1 with h | h
    · have : P % Q = 0 := by omega
      rw [this] at hgg; simp [Int.gcd] at hgg; omega
    · exact h
  generalize P % Q = s at *
  generalize P / Q = f at *
  refine ⟨⟨by grind, by grind, by grind, by omega, hs, by omega, by omega, by omega⟩, hs, m1⟩
def ivOf : Option Value → Int
  | some (.int _ a) => a
  | _ => 0
set_option maxHeartbeats 3200000 in
theorem l05Level_any (P Q : Int) (w : World) (hQ : 1 ≤ Q) (hQ2 : Q ≤ 1000000) (hP1 : -1000000 ≤ P) (hP2 : P ≤ 1000000) (hg : Int.gcd P Q = 1) :
    Calls Tryd.prog 27 #[.agg #[.int .i64 P, .int .i64 Q]] w fun e w' => e = .returned (.int .i64 (lvl P Q)) ∧ Below w.heap.size w w' := by
  by_cases hq1 : Q = 1
  · subst hq1
    rw [lvl_one]
    clear hg
    have hs20 : w.heap.size < w.heap.size + 1 + 1 := (by omega)
    go_enter Tryd.func27, Tryd.ntmps27
    go_wp2
    go_ret
    exact ⟨rfl, by (repeat' (first | (with_reducible exact Below.refl _ _) | (with_reducible refine Below.alloc ?_ ?_ _) | (with_reducible refine Below.setCell ?_ ?_ _) | (with_reducible refine Below.drew ?_) | (with_reducible refine below_drewN ?_ _) | (with_reducible assumption) | (with_reducible refine below_after (by with_reducible assumption) ?_) | go_size))⟩
  · have hqb : (Q == 1) = false := by simpa using hq1
    have hlv : lvl P Q = lvG (2 * Q).toNat (Q - P % Q) (P % Q) 1 1 := level_same P Q _ (by omega) hg (by omega)
    obtain ⟨hst, s1, s2⟩ := st_first (by omega : 2 ≤ Q) hg
    have HFl := Lib.hid (fun w => l01Floor_any P Q w hQ hQ2 hP1 hP2)
    have HP : Hid (∀ l0 l1 r0 r1 w, Bn l0 → Bn l1 → Bn r0 → Bn r1 → Calls Tryd.prog 14 #[.agg #[.int .i64 l0, .int .i64 l1], .agg #[.int .i64 r0, .int .i64 r1], .int .i64 1] w fun e w' => e = .returned (.agg #[.int .i64 (l0 + r0), .int .i64 (l1 + r1)]) ∧ Below w.heap.size w w') := fun l0 l1 r0 r1 w h0 h1 h2 h3 => by
      have := l01Plus_any l0 l1 r0 r1 1 w h0 h1 h2 h3 ⟨by decide, by decide⟩
      rw [Int.one_mul, Int.one_mul] at this
      exact this
    have HD : Hid (∀ n0 n1 D w, Bn n0 → Bn n1 → P * n1 - Q * n0 = D → Calls Tryd.prog 50 #[.agg #[.int .i64 P, .int .i64 Q], .agg #[.int .i64 n0, .int .i64 n1]] w fun e w' => e = .returned (.int .i64 D) ∧ Below w.heap.size w w') := fun n0 n1 D w h0 h1 hD => by
      have := l01Det_any P Q n0 n1 w ⟨by omega, by omega⟩ ⟨by omega, by omega⟩ h0 h1
      unfold detP at this
      simp only at this
      rw [hD] at this
      exact this
    have hmn := fun (W : World) (ts : Array TypeId) (t : TypeId) (x y : Int) => run_min2 Tryd.prog W ts t x y
    have HLV : Hid (lvG (2 * Q).toNat (Q - P % Q) (P % Q) 1 1 = lvl P Q) := hlv.symm
    have hfb : -1000001 ≤ P / Q ∧ P / Q ≤ 1000000 := by have := floor_bd hQ hP1 hP2; omega
    have wf : IntKind.i64.wrap (P / Q + 1) = P / Q + 1 := by rw [IntKind.wrap_i64]; omega
    have HST := Lib.hid hst
    have HS12 : Hid (1 ≤ P % Q ∧ P % Q < Q) := ⟨s1, s2⟩
    obtain ⟨R, hR⟩ : ∃ R, lvl P Q = R := ⟨_, rfl⟩
    rw [hR] at HLV ⊢
    generalize P % Q = s at *
    generalize P / Q = f at *
    clear hlv hst s1 s2 hR hg
    have hs20 : w.heap.size < w.heap.size + 1 + 1 := (by omega); have hs30 : w.heap.size < w.heap.size + 1 + 1 + 1 := (by omega); have hs31 : w.heap.size + 1 < w.heap.size + 1 + 1 + 1 := (by omega)
    go_enter Tryd.func27, Tryd.ntmps27
    go_wp2_with fail
    go_at_call 49
    refine (HFl.out _).mono ?_
    rintro e w0 ⟨rfl, rfl⟩
    go_wp2_with fail
    obtain ⟨wA, hwA⟩ : ∃ wA, wA = w.alloc (.cells #[.int .i64 P, .int .i64 Q] 23) := ⟨_, rfl⟩
    obtain ⟨wB, hwB⟩ : ∃ wB, wB = (wA.alloc (.cells #[.int .i64 f, .int .i64 1] 23)).alloc (.cells #[.int .i64 (f + 1), .int .i64 1] 23) := ⟨_, rfl⟩
    have hzA : wA.heap.size = w.heap.size + 1 := by rw [hwA]; simp
    have HA : Hid (∀ W, Below wA.heap.size wA W → W.cell? ⟨w.heap.size, 0, none⟩ = some (.int .i64 P) ∧ W.cell? ⟨w.heap.size, 1, none⟩ = some (.int .i64 Q) ∧ Below w.heap.size w W) := fun W hW =>
      ⟨(hW.cell (p := ⟨w.heap.size, 0, none⟩) (by show w.heap.size < _; omega)).trans (by rw [hwA]; go_cell), (hW.cell (p := ⟨w.heap.size, 1, none⟩) (by show w.heap.size < _; omega)).trans (by rw [hwA]; go_cell), below_after hW (by rw [hwA]; exact (Below.refl _ _).alloc (Nat.le_refl _) _)⟩
    have hB4 : Bk2 wB (w.heap.size + 1) f 1 := by
      have h := (bk2_new wA f 1 23).below ((Below.refl _ _).alloc (Nat.le_refl _) (.cells #[.int .i64 (f + 1), .int .i64 1] 23))
      rw [← hwB, hzA] at h
      exact h
    have hB5 : Bk2 wB (w.heap.size + 1 + 1) (f + 1) 1 := by
      have h := bk2_new (wA.alloc (.cells #[.int .i64 f, .int .i64 1] 23)) (f + 1) 1 23
      rw [← hwB, World.size_alloc, hzA] at h
      exact h
    have hBA : Below wA.heap.size wA wB := by rw [hwB]; (repeat' (first | (with_reducible exact Below.refl _ _) | (with_reducible refine Below.alloc ?_ ?_ _) | (with_reducible refine Below.setCell ?_ ?_ _) | (with_reducible refine Below.drew ?_) | (with_reducible refine below_drewN ?_ _) | (with_reducible assumption) | (with_reducible refine below_after (by with_reducible assumption) ?_) | go_size))
    rw [← hwA, ← hwB]
    clear hwA hwB wf
    go_loopw [6, 7] (fun lo hi wr => ∃ (x y l0 l1 r0 r1 L H : Int) (g : Nat), lo = .int .i64 L ∧ hi = .int .i64 H ∧ St P Q l0 l1 r0 r1 x y ∧ Bk2 wr (w.heap.size + 1) l0 l1 ∧ Bk2 wr (w.heap.size + 1 + 1) r0 r1 ∧ Below wA.heap.size wA wr ∧ lvG g x y L H = R ∧ x + y ≤ g ∧ 0 ≤ L ∧ 0 ≤ H ∧ L + x + y ≤ Q + 1 ∧ H + x + y ≤ Q + 1)
      (fun _ _ wr => (3000000 - (ivOf (wr.cell? ⟨w.heap.size + 1, 1, none⟩) + ivOf (wr.cell? ⟨w.heap.size + 1 + 1, 1, none⟩))).toNat)
    case atStart => exact ⟨Q - s, s, f, 1, f + 1, 1, 1, 1, (2 * Q).toNat, rfl, rfl, HST.out, hB4, hB5, hBA, HLV.out, by omega, by omega, by omega, by omega, by omega⟩
    case round =>
      obtain ⟨x, y, l0, l1, r0, r1, L, H, g, rfl, rfl, hst, hb4, hb5, hbA, hlv, hxy, hL0, hH0, hL1, hH1⟩ := hrel
      have HS := Lib.hid hst
      have hd := st_det hst
      obtain ⟨q1, q2, q3, q4, q5, q6, q7⟩ := st_bd hst hP1 hP2
      have x1 := hst.2.2.2.1
      have y1 := hst.2.2.2.2.1
      have l11 := hst.2.2.2.2.2.1
      have r11 := hst.2.2.2.2.2.2.1
      clear hst
      have HLV := Lib.hid hlv
      obtain ⟨a0, a1, _⟩ := HA.out _ hbA
      obtain ⟨⟨b0, b1⟩, ⟨b2, b3⟩, bz⟩ := hb4
      obtain ⟨⟨c0, c1⟩, ⟨c2, c3⟩, cz⟩ := hb5
      have HB : Hid (Bk2 wr (w.heap.size + 1) l0 l1 ∧ Bk2 wr (w.heap.size + 1 + 1) r0 r1 ∧ Below wA.heap.size wA wr) := ⟨⟨⟨b0, b1⟩, ⟨b2, b3⟩, bz⟩, ⟨⟨c0, c1⟩, ⟨c2, c3⟩, cz⟩, hbA⟩
      obtain ⟨D, hD⟩ : ∃ D, y - x = D := ⟨_, rfl⟩
      rw [hD] at hd
      clear hlv hbA
      have wl : IntKind.i64.wrap (min L H + 1) = min L H + 1 := by rw [IntKind.wrap_i64]; omega
      go_wp2_with fail
      go_at_call 14
      refine (HP.out _ _ _ _ _ ⟨by omega, by omega⟩ ⟨by omega, by omega⟩ ⟨by omega, by omega⟩ ⟨by omega, by omega⟩).mono ?_
      rintro e w2 ⟨rfl, hb⟩
      have HB2 : Hid (Bk2 w2 (w.heap.size + 1) l0 l1 ∧ Bk2 w2 (w.heap.size + 1 + 1) r0 r1 ∧ Below wA.heap.size wA w2) := ⟨HB.out.1.below hb, HB.out.2.1.below hb, below_after hb HB.out.2.2⟩
      clear hb a0 a1 b0 b1 b2 b3 bz c0 c1 c2 c3 cz
      obtain ⟨a0, a1, _⟩ := HA.out _ HB2.out.2.2
      obtain ⟨⟨⟨b0, b1⟩, ⟨b2, b3⟩, bz⟩, ⟨⟨c0, c1⟩, ⟨c2, c3⟩, cz⟩, hbA⟩ := HB2.out
      clear hbA
      have lw : w.heap.size < w2.heap.size := by omega
      go_wp2_with fail
      go_at_call 50
      refine (HD.out _ _ D _ ⟨by omega, by omega⟩ ⟨by omega, by omega⟩ hd).mono ?_
      rintro e w3 ⟨rfl, hb⟩
      have hbw : Below w2.heap.size w2 (w2.alloc (.cells #[.int .i64 (l0 + r0), .int .i64 (l1 + r1)] 23)) := (Below.refl _ _).alloc (Nat.le_refl _) _
      have HB3 : Hid (Bk2 w3 (w.heap.size + 1) l0 l1 ∧ Bk2 w3 (w.heap.size + 1 + 1) r0 r1 ∧ Bk2 w3 w2.heap.size (l0 + r0) (l1 + r1) ∧ Below wA.heap.size wA w3) := ⟨(HB2.out.1.below hbw).below hb, (HB2.out.2.1.below hbw).below hb, (bk2_new w2 (l0 + r0) (l1 + r1) 23).below hb, below_after (below_after hb hbw) HB2.out.2.2⟩
      clear hb hbw a0 a1 b0 b1 b2 b3 bz c0 c1 c2 c3 cz
      obtain ⟨⟨⟨b0, b1⟩, ⟨b2, b3⟩, bz⟩, ⟨⟨c0, c1⟩, ⟨c2, c3⟩, cz⟩, ⟨⟨n0, n1⟩, ⟨n2, n3⟩, nz⟩, hbA⟩ := HB3.out
      have z1 : ¬ w.heap.size + 1 = w2.heap.size := by have := HB2.out.1.2.2; omega
      have z2 : ¬ w.heap.size + 1 + 1 = w2.heap.size := by have := HB2.out.2.1.2.2; omega
      have z3 : ¬ w2.heap.size = w.heap.size + 1 := fun h => z1 h.symm
      have z4 : ¬ w2.heap.size = w.heap.size + 1 + 1 := fun h => z2 h.symm
      by_cases h0 : D = 0
      · subst h0
        have hxy0 : x = y := by omega
        have hv := HLV.out
        obtain ⟨g', rfl⟩ : ∃ g', g = g' + 1 := ⟨g - 1, by omega⟩
        rw [lvG, if_pos hxy0] at hv
        go_wp2_with fail
        go_ret
        exact ⟨rfl, (HA.out _ hbA).2.2⟩
      · have h0b : (D == 0) = false := by simpa using h0
        obtain ⟨g', rfl⟩ : ∃ g', g = g' + 1 := ⟨g - 1, by omega⟩
        have hv := HLV.out
        rw [lvG, if_neg (by omega)] at hv
        by_cases hp : D > 0
        · have hpb : decide (D > 0) = true := by simpa using hp
          rw [if_neg (by omega)] at hv
          have hst2 := st_left HS.out (by omega)
          go_wp2_with fail
          go_roundw
          case rel =>
            obtain ⟨k4, k5, kn, kA⟩ := HB3.out
            refine ⟨x, y - x, l0 + r0, l1 + r1, r0, r1, min L H + 1, H, g', rfl, rfl, hst2, (k4.set0 (l0 + r0)).set1 (l1 + r1), (k5.far ⟨w.heap.size + 1, 0, none⟩ (.int .i64 (l0 + r0)) (by show w.heap.size + 1 + 1 ≠ w.heap.size + 1; omega)).far ⟨w.heap.size + 1, 1, none⟩ (.int .i64 (l1 + r1)) (by show w.heap.size + 1 + 1 ≠ w.heap.size + 1; omega), Below.setCell (Below.setCell kA (by show wA.heap.size ≤ w.heap.size + 1; omega) _) (by show wA.heap.size ≤ w.heap.size + 1; omega) _, hv, by omega, by omega, by omega, by omega, by omega⟩
          case measure =>
            obtain ⟨k4, k5, kn, kA⟩ := HB3.out
            have e4 := ((k4.set0 (l0 + r0)).set1 (l1 + r1)).1.2
            have e5 := ((k5.far ⟨w.heap.size + 1, 0, none⟩ (.int .i64 (l0 + r0)) (by show w.heap.size + 1 + 1 ≠ w.heap.size + 1; omega)).far ⟨w.heap.size + 1, 1, none⟩ (.int .i64 (l1 + r1)) (by show w.heap.size + 1 + 1 ≠ w.heap.size + 1; omega)).1.2
            have o4 := HB.out.1.1.2
            have o5 := HB.out.2.1.1.2
            rw [e4, e5, o4, o5]
            simp only [ivOf]
            omega
        · have hpb : decide (D > 0) = false := by simpa using hp
          rw [if_pos (by omega)] at hv
          have hst2 := st_right HS.out (by omega)
          go_wp2_with fail
          go_roundw
          case rel =>
            obtain ⟨k4, k5, kn, kA⟩ := HB3.out
            refine ⟨x - y, y, l0, l1, l0 + r0, l1 + r1, L, min L H + 1, g', rfl, rfl, hst2, (k4.far ⟨w.heap.size + 1 + 1, 0, none⟩ (.int .i64 (l0 + r0)) (by show w.heap.size + 1 ≠ w.heap.size + 1 + 1; omega)).far ⟨w.heap.size + 1 + 1, 1, none⟩ (.int .i64 (l1 + r1)) (by show w.heap.size + 1 ≠ w.heap.size + 1 + 1; omega), (k5.set0 (l0 + r0)).set1 (l1 + r1), Below.setCell (Below.setCell kA (by show wA.heap.size ≤ w.heap.size + 1 + 1; omega) _) (by show wA.heap.size ≤ w.heap.size + 1 + 1; omega) _, hv, by omega, by omega, by omega, by omega, by omega⟩
          case measure =>
            obtain ⟨k4, k5, kn, kA⟩ := HB3.out
            have e5 := ((k5.set0 (l0 + r0)).set1 (l1 + r1)).1.2
            have e4 := ((k4.far ⟨w.heap.size + 1 + 1, 0, none⟩ (.int .i64 (l0 + r0)) (by show w.heap.size + 1 ≠ w.heap.size + 1 + 1; omega)).far ⟨w.heap.size + 1 + 1, 1, none⟩ (.int .i64 (l1 + r1)) (by show w.heap.size + 1 ≠ w.heap.size + 1 + 1; omega)).1.2
            have o4 := HB.out.1.1.2
            have o5 := HB.out.2.1.1.2
            rw [e4, e5, o4, o5]
            simp only [ivOf]
            omega
end Go.Proofs.YtohnmogejidpdabDoor
