/-
  Contracts of chapter 6's small functions on forms, in the program and in the model (own work).
-/
import Derived.Test.YtoikaclapccciaaFoM
import Derived.Test.YtoikaclapccciaaBlk
import Derived.Lib.MinMax
import Derived.StillTailTactics
namespace Go.Proofs.Ytoikaclapccciaa
open Go.ChangeShapes Go.WideShapes Go.ChangeAt Go.RowKit
set_option linter.unusedVariables false
set_option linter.unusedSimpArgs false
set_option maxRecDepth 100000

def inB (n l h : Int) : Bool := decide (l ≤ n ∧ n ≤ h)
theorem inB_iff {n l h : Int} : inB n l h = true ↔ l ≤ n ∧ n ≤ h := by simp [inB]
theorem inB_not {n l h : Int} : inB n l h = false ↔ ¬ (l ≤ n ∧ n ≤ h) := by simp [inB]
theorem l01In_yes (n l h : Int) (w : World) (h1 : l ≤ n) (h2 : n ≤ h) : Calls Try.prog 33 #[.int .i64 n, .int .i64 l, .int .i64 h] w fun e w' => e = .returned (.bool true) ∧ w = w' := by
  go_enter Try.func33, Try.ntmps33
  go_wp2
  go_ret
  exact ⟨by simp [h2], rfl⟩
theorem l01In_no (n l h : Int) (w : World) (hn : ¬ (l ≤ n ∧ n ≤ h)) : Calls Try.prog 33 #[.int .i64 n, .int .i64 l, .int .i64 h] w fun e w' => e = .returned (.bool false) ∧ w = w' := by
  by_cases h1 : l ≤ n
  · have h2 : ¬ n ≤ h := by omega
    clear hn
    go_enter Try.func33, Try.ntmps33
    go_wp2
    go_ret
    exact ⟨by simp [h2], rfl⟩
  · have hd : decide (l ≤ n) = false := by simpa using h1
    clear hn
    go_enter Try.func33, Try.ntmps33
    go_wp2
    go_ret
    exact ⟨by simp [hd], rfl⟩
theorem l01In_any (n l h : Int) (w : World) : Calls Try.prog 33 #[.int .i64 n, .int .i64 l, .int .i64 h] w fun e w' => e = .returned (.bool (inB n l h)) ∧ w = w' := by
  cases hb : inB n l h
  · exact l01In_no n l h w (inB_not.1 hb)
  · exact l01In_yes n l h w (inB_iff.1 hb).1 (inB_iff.1 hb).2
theorem run_max2 (P : Program) (w : World) (ts : Array TypeId) (t : TypeId) (x y m : Int) (h : max x y = m) : (Builtin.max_ ts t #[.int .i64 x, .int .i64 y]).run P w = .ok (.int .i64 m) w := by
  rw [← h]
  simp [Builtin.max_, Builtin.max2]
  split <;> omega
def Bc (n : Int) : Prop := -1000000 ≤ n ∧ n ≤ 1000000
theorem dsc_bd {a b c : Int} (ha : Bc a) (hb : Bc b) (hc : Bc c) : (0 ≤ b * b ∧ b * b ≤ 1000000000000) ∧ (-4000000000000 ≤ 4 * a * c ∧ 4 * a * c ≤ 4000000000000) := by
  have h1 := mul_bd hb.1 hb.2 hb.1 hb.2
  have h0 : 0 ≤ b * b := by rw [← absI_sq]; exact Int.mul_nonneg (absI_nn b) (absI_nn b)
  have h2 := mul_bd (a := 4 * a) (b := c) (A := 4000000) (B := 1000000) (by have := ha.1; omega) (by have := ha.2; omega) hc.1 hc.2
  omega
theorem discriminant_any (a b c : Int) (w : World) (ha : Bc a) (hb : Bc b) (hc : Bc c) :
    Calls Try.prog 30 #[.agg #[.int .i64 a, .int .i64 b, .int .i64 c]] w fun e w' => e = .returned (.int .i64 (dsc a b c)) ∧ Below w.heap.size w w' := by
  obtain ⟨⟨p1, p2⟩, q1, q2⟩ := dsc_bd ha hb hc
  obtain ⟨a1, a2⟩ := ha
  clear hb hc
  go_enter Try.func30, Try.ntmps30
  go_wp2
  go_ret
  exact ⟨rfl, by (repeat' (first | (with_reducible exact Below.refl _ _) | (with_reducible refine Below.alloc ?_ ?_ _) | (with_reducible refine Below.setCell ?_ ?_ _) | (with_reducible refine Below.drew ?_) | (with_reducible refine below_drewN ?_ _) | (with_reducible assumption) | (with_reducible refine below_after (by with_reducible assumption) ?_) | go_size))⟩
theorem l06Disc_any (a b c : Int) (w : World) (ha : Bc a) (hb : Bc b) (hc : Bc c) :
    Calls Try.prog 32 #[.agg #[.int .i64 a, .int .i64 b, .int .i64 c]] w fun e w' => e = .returned (.int .i64 (dsc a b c)) ∧ Below w.heap.size w w' := by
  obtain ⟨⟨p1, p2⟩, q1, q2⟩ := dsc_bd ha hb hc
  obtain ⟨a1, a2⟩ := ha
  clear hb hc
  go_enter Try.func32, Try.ntmps32
  go_wp2
  go_ret
  exact ⟨rfl, by (repeat' (first | (with_reducible exact Below.refl _ _) | (with_reducible refine Below.alloc ?_ ?_ _) | (with_reducible refine Below.setCell ?_ ?_ _) | (with_reducible refine Below.drew ?_) | (with_reducible refine below_drewN ?_ _) | (with_reducible assumption) | (with_reducible refine below_after (by with_reducible assumption) ?_) | go_size))⟩
theorem rootBelow_any (d : Int) (w : World) (h1 : 1 ≤ d) (h2 : d ≤ 4000) :
    Calls Try.prog 36 #[.int .i64 d] w fun e w' => e = .returned (.int .i64 (rtB d)) ∧ w = w' := by
  go_enter Try.func36, Try.ntmps36
  go_wp2
  go_loop [3] (fun x => ∃ k : Int, x = .int .i64 k ∧ 0 ≤ k ∧ k ≤ 63 ∧ k * k < d) (fun x => (64 - intOf x).toNat)
  case atStart => exact ⟨0, rfl, by omega, by omega, by omega⟩
  case round =>
    obtain ⟨k, rfl, k0, k1, k2⟩ := hrel
    have m1 : 0 ≤ (k + 1) * (k + 1) := Int.mul_nonneg (by omega) (by omega)
    have m2 : (k + 1) * (k + 1) ≤ 64 * 64 := sq_le (by omega) (by omega)
    by_cases hlt : (k + 1) * (k + 1) < d
    · have k3 : k + 1 ≤ 63 := by
        have := sq_lt (a := k + 1) (b := 64) (by omega) (by omega)
        omega
      have HL := Lib.hid hlt
      clear k2
      go_wp2
      go_round
      case rel => exact ⟨k + 1, rfl, by omega, k3, HL.out⟩
      case measure => simp [intOf]; omega
    · have HR := Lib.hid (rtB_eq h1 h2 k0 k2 (by omega))
      clear k2
      go_wp2
      go_ret
      exact ⟨by rw [HR.out]; rfl, rfl⟩
theorem l06Root_any (d : Int) (w : World) (h1 : 1 ≤ d) (h2 : d ≤ 4000) :
    Calls Try.prog 34 #[.int .i64 d] w fun e w' => e = .returned (.int .i64 (rtC d)) ∧ w = w' := by
  go_enter Try.func34, Try.ntmps34
  go_wp2
  go_loop [3] (fun x => ∃ k : Int, x = .int .i64 k ∧ 0 ≤ k ∧ k ≤ 63 ∧ k * k ≤ d) (fun x => (64 - intOf x).toNat)
  case atStart => exact ⟨0, rfl, by omega, by omega, by omega⟩
  case round =>
    obtain ⟨k, rfl, k0, k1, k2⟩ := hrel
    have m1 : 0 ≤ (k + 1) * (k + 1) := Int.mul_nonneg (by omega) (by omega)
    have m2 : (k + 1) * (k + 1) ≤ 64 * 64 := sq_le (by omega) (by omega)
    by_cases hlt : (k + 1) * (k + 1) ≤ d
    · have k3 : k + 1 ≤ 63 := by
        have := sq_lt (a := k + 1) (b := 64) (by omega) (by omega)
        omega
      have HL := Lib.hid hlt
      clear k2
      go_wp2
      go_round
      case rel => exact ⟨k + 1, rfl, by omega, k3, HL.out⟩
      case measure => simp [intOf]; omega
    · have HR := Lib.hid (rtC_eq h1 h2 k0 k2 (by omega))
      clear k2
      go_wp2
      go_ret
      exact ⟨by rw [HR.out]; rfl, rfl⟩
theorem isD_low {d : Int} (h : d < 1) : isD d = false := by
  unfold isD
  rw [show decide (1 ≤ d) = false from by simp; omega]
  rfl
theorem isD_high {d : Int} (h : 4000 < d) : isD d = false := by
  unfold isD
  rw [show decide (d ≤ 4000) = false from by simp; omega, Bool.and_false]
  rfl
theorem isD_in {d : Int} (h1 : 1 ≤ d) (h2 : d ≤ 4000) : isD d = !(decide ((rtB d + 1) * (rtB d + 1) = d)) := by
  unfold isD
  rw [show decide (1 ≤ d) = true from by simp; omega, show decide (d ≤ 4000) = true from by simp; omega]
  simp
theorem isD_C {d : Int} (h1 : 1 ≤ d) (h2 : d ≤ 4000) : isD d = !(decide (rtC d * rtC d = d)) := by
  rw [isD_in h1 h2]
  obtain ⟨r0, _, r1, r2⟩ := rtB_ok h1 h2
  unfold rtC
  split
  · rfl
  · next h =>
    rw [show decide ((rtB d + 1) * (rtB d + 1) = d) = false from by simpa using h, show decide (rtB d * rtB d = d) = false from by simp; omega]
theorem rtC_bd {d : Int} (h1 : 1 ≤ d) (h2 : d ≤ 4000) : 0 ≤ rtC d ∧ rtC d ≤ 64 := by
  have := rtB_ok h1 h2
  unfold rtC
  split <;> omega
theorem isDiscriminant_any (d : Int) (w : World) :
    Calls Try.prog 29 #[.int .i64 d] w fun e w' => e = .returned (.bool (isD d)) ∧ w = w' := by
  by_cases h1 : d < 1
  · rw [isD_low h1]
    go_enter Try.func29, Try.ntmps29
    go_wp2
    go_ret
    exact ⟨rfl, rfl⟩
  · by_cases h2 : 4000 < d
    · rw [isD_high h2]
      go_enter Try.func29, Try.ntmps29
      go_wp2
      go_ret
      exact ⟨rfl, rfl⟩
    · have HC : Hid (∀ w, Calls Try.prog 36 #[.int .i64 d] w fun e w' => e = .returned (.int .i64 (rtB d)) ∧ w = w') := fun w => rootBelow_any d w (by omega) (by omega)
      rw [isD_in (by omega) (by omega)]
      obtain ⟨r0, r1, _, _⟩ := rtB_ok (d := d) (by omega) (by omega)
      obtain ⟨r, hr⟩ : ∃ r, rtB d = r := ⟨_, rfl⟩
      rw [hr] at HC r0 r1 ⊢
      clear hr
      have m1 : 0 ≤ (r + 1) * (r + 1) := Int.mul_nonneg (by omega) (by omega)
      have m2 : (r + 1) * (r + 1) ≤ 64 * 64 := sq_le (by omega) (by omega)
      go_enter Try.func29, Try.ntmps29
      go_wp2_with (go_at_call 36; refine (HC.out _).mono ?_; rintro e wn ⟨rfl, rfl⟩)
      go_ret
      exact ⟨by first | rfl | simp | (congr; simp), rfl⟩
set_option maxHeartbeats 800000 in
theorem areCoords_three (a b c : Int) (g : Nat) (w : World) (c0 : w.cell? ⟨g, 0, none⟩ = some (.int .i64 a)) (c1 : w.cell? ⟨g, 1, none⟩ = some (.int .i64 b)) (c2 : w.cell? ⟨g, 2, none⟩ = some (.int .i64 c)) (hg : g < w.heap.size) :
    Calls Try.prog 28 #[.slice (some ⟨g, 0, none⟩) 3 3] w fun e w' => e = .returned (.bool (crd a && crd b && crd c)) ∧ w = w' := by
  cases ha : crd a
  · go_enter Try.func28, Try.ntmps28
    go_wp2
    refine wp_loop_rounds 4 ?_
    rw [rounds_succ]
    go_wp2_with (go_at_call 35; refine (isCoord_any _ _).mono ?_; rintro e wn ⟨rfl, rfl⟩)
    go_ret
    exact ⟨rfl, rfl⟩
  · cases hb : crd b
    · go_enter Try.func28, Try.ntmps28
      go_wp2
      refine wp_loop_rounds 4 ?_
      rw [rounds_succ]
      go_wp2_with (go_at_call 35; refine (isCoord_any _ _).mono ?_; rintro e wn ⟨rfl, rfl⟩)
      rw [rounds_succ]
      go_wp2_with (go_at_call 35; refine (isCoord_any _ _).mono ?_; rintro e wn ⟨rfl, rfl⟩)
      go_ret
      exact ⟨rfl, rfl⟩
    · cases hc : crd c
      · go_enter Try.func28, Try.ntmps28
        go_wp2
        refine wp_loop_rounds 4 ?_
        rw [rounds_succ]
        go_wp2_with (go_at_call 35; refine (isCoord_any _ _).mono ?_; rintro e wn ⟨rfl, rfl⟩)
        rw [rounds_succ]
        go_wp2_with (go_at_call 35; refine (isCoord_any _ _).mono ?_; rintro e wn ⟨rfl, rfl⟩)
        rw [rounds_succ]
        go_wp2_with (go_at_call 35; refine (isCoord_any _ _).mono ?_; rintro e wn ⟨rfl, rfl⟩)
        go_ret
        exact ⟨rfl, rfl⟩
      · go_enter Try.func28, Try.ntmps28
        go_wp2
        refine wp_loop_rounds 4 ?_
        rw [rounds_succ]
        go_wp2_with (go_at_call 35; refine (isCoord_any _ _).mono ?_; rintro e wn ⟨rfl, rfl⟩)
        rw [rounds_succ]
        go_wp2_with (go_at_call 35; refine (isCoord_any _ _).mono ?_; rintro e wn ⟨rfl, rfl⟩)
        rw [rounds_succ]
        go_wp2_with (go_at_call 35; refine (isCoord_any _ _).mono ?_; rintro e wn ⟨rfl, rfl⟩)
        rw [rounds_succ]
        go_wp2
        go_ret
        exact ⟨rfl, rfl⟩
theorem crd3 {a b c : Int} (h : (crd a && crd b && crd c) = true) : Bc a ∧ Bc b ∧ Bc c := by
  simp only [Bool.and_eq_true] at h
  exact ⟨crd_iff.1 h.1.1, crd_iff.1 h.1.2, crd_iff.1 h.2⟩
set_option maxHeartbeats 800000 in
theorem impl_IsForm_any (a b c : Int) (w : World) :
    Calls Try.prog 21 #[.agg #[.int .i64 a, .int .i64 b, .int .i64 c]] w fun e w' => e = .returned (.bool (isFm a b c)) ∧ Below w.heap.size w w' := by
  cases hc : (crd a && crd b && crd c)
  · have e : isFm a b c = false := by unfold isFm; rw [hc]; rfl
    rw [e]
    have HA : Hid (∀ g w, w.cell? ⟨g, 0, none⟩ = some (.int .i64 a) → w.cell? ⟨g, 1, none⟩ = some (.int .i64 b) → w.cell? ⟨g, 2, none⟩ = some (.int .i64 c) → g < w.heap.size → Calls Try.prog 28 #[.slice (some ⟨g, 0, none⟩) 3 3] w fun e w' => e = .returned (.bool false) ∧ w = w') := by
      intro g w h0 h1 h2 h3
      have := areCoords_three a b c g w h0 h1 h2 h3
      rwa [hc] at this
    clear hc e
    have hs20 : w.heap.size < w.heap.size + 1 + 1 := (by omega)
    go_enter Try.func21, Try.ntmps21
    go_wp2_with (first | (go_at_call 28; refine (HA.out _ _ (by go_cell) (by go_cell) (by go_cell) (by simp)).mono ?_; rintro e wn ⟨rfl, rfl⟩))
    go_ret
    exact ⟨rfl, by (repeat' (first | (with_reducible exact Below.refl _ _) | (with_reducible refine Below.alloc ?_ ?_ _) | (with_reducible refine Below.setCell ?_ ?_ _) | (with_reducible refine Below.drew ?_) | (with_reducible refine below_drewN ?_ _) | (with_reducible assumption) | (with_reducible refine below_after (by with_reducible assumption) ?_) | go_size))⟩
  · have e : isFm a b c = isD (dsc a b c) := by unfold isFm; rw [hc]; rfl
    rw [e]
    have HA : Hid (∀ g w, w.cell? ⟨g, 0, none⟩ = some (.int .i64 a) → w.cell? ⟨g, 1, none⟩ = some (.int .i64 b) → w.cell? ⟨g, 2, none⟩ = some (.int .i64 c) → g < w.heap.size → Calls Try.prog 28 #[.slice (some ⟨g, 0, none⟩) 3 3] w fun e w' => e = .returned (.bool true) ∧ w = w') := by
      intro g w h0 h1 h2 h3
      have := areCoords_three a b c g w h0 h1 h2 h3
      rwa [hc] at this
    have HB := Lib.hid (crd3 hc)
    clear hc e
    have hs20 : w.heap.size < w.heap.size + 1 + 1 := (by omega)
    go_enter Try.func21, Try.ntmps21
    go_wp2_with (first | (go_at_call 28; refine (HA.out _ _ (by go_cell) (by go_cell) (by go_cell) (by simp)).mono ?_; rintro e wn ⟨rfl, rfl⟩) | (go_at_call 30; refine (discriminant_any _ _ _ _ HB.out.1 HB.out.2.1 HB.out.2.2).mono ?_; rintro e wn ⟨rfl, hb⟩; first | (have h2 := after_call2 hb hcl hfr hlt (by ((repeat' (first | (with_reducible exact Below.refl _ _) | (with_reducible refine Below.alloc ?_ ?_ _) | (with_reducible refine Below.setCell ?_ ?_ _) | (with_reducible refine Below.drew ?_) | (with_reducible refine below_drewN ?_ _) | (with_reducible assumption) | (with_reducible refine below_after (by with_reducible assumption) ?_) | go_size)); done)); obtain ⟨hclx, hfrx, hltx, hsz⟩ := after_call hb; (try simp only [World.size_alloc, World.size_setCell, World.size_drew] at hclx hfrx hltx hsz); (try (have hszl := Nat.lt_of_succ_le hsz)); obtain ⟨hcl, hfr, hlt⟩ := h2) | (obtain ⟨hcl, hfr, hlt, hsz⟩ := after_call hb; (try simp only [World.size_alloc, World.size_setCell, World.size_drew] at hcl hfr hlt hsz))) | (go_at_call 29; refine (isDiscriminant_any _ _).mono ?_; rintro e wn ⟨rfl, rfl⟩))
    go_ret
    exact ⟨rfl, by (repeat' (first | (with_reducible exact Below.refl _ _) | (with_reducible refine Below.alloc ?_ ?_ _) | (with_reducible refine Below.setCell ?_ ?_ _) | (with_reducible refine Below.drew ?_) | (with_reducible refine below_drewN ?_ _) | (with_reducible assumption) | (with_reducible refine below_after (by with_reducible assumption) ?_) | go_size))⟩
set_option maxHeartbeats 1600000 in
theorem l06Is_any (a b c : Int) (w : World) :
    Calls Try.prog 25 #[.agg #[.int .i64 a, .int .i64 b, .int .i64 c]] w fun e w' => e = .returned (.bool (isFm a b c)) ∧ Below w.heap.size w w' := by
  cases ha : crd a
  · have e : isFm a b c = false := by unfold isFm; rw [ha]; rfl
    rw [e]
    go_enter Try.func25, Try.ntmps25
    go_wp2_with (go_at_call 31; refine (fits_any _ _).mono ?_; rintro e wn ⟨rfl, rfl⟩)
    go_ret
    exact ⟨rfl, by (repeat' (first | (with_reducible exact Below.refl _ _) | (with_reducible refine Below.alloc ?_ ?_ _) | (with_reducible refine Below.setCell ?_ ?_ _) | (with_reducible refine Below.drew ?_) | (with_reducible refine below_drewN ?_ _) | (with_reducible assumption) | (with_reducible refine below_after (by with_reducible assumption) ?_) | go_size))⟩
  · cases hb : crd b
    · have e : isFm a b c = false := by unfold isFm; rw [hb, Bool.and_false]; rfl
      rw [e]
      go_enter Try.func25, Try.ntmps25
      go_wp2_with (go_at_call 31; refine (fits_any _ _).mono ?_; rintro e wn ⟨rfl, rfl⟩)
      go_ret
      exact ⟨rfl, by (repeat' (first | (with_reducible exact Below.refl _ _) | (with_reducible refine Below.alloc ?_ ?_ _) | (with_reducible refine Below.setCell ?_ ?_ _) | (with_reducible refine Below.drew ?_) | (with_reducible refine below_drewN ?_ _) | (with_reducible assumption) | (with_reducible refine below_after (by with_reducible assumption) ?_) | go_size))⟩
    · cases hc : crd c
      · have e : isFm a b c = false := by unfold isFm; rw [hc, Bool.and_false]; rfl
        rw [e]
        go_enter Try.func25, Try.ntmps25
        go_wp2_with (go_at_call 31; refine (fits_any _ _).mono ?_; rintro e wn ⟨rfl, rfl⟩)
        go_ret
        exact ⟨rfl, by (repeat' (first | (with_reducible exact Below.refl _ _) | (with_reducible refine Below.alloc ?_ ?_ _) | (with_reducible refine Below.setCell ?_ ?_ _) | (with_reducible refine Below.drew ?_) | (with_reducible refine below_drewN ?_ _) | (with_reducible assumption) | (with_reducible refine below_after (by with_reducible assumption) ?_) | go_size))⟩
      · have e : isFm a b c = isD (dsc a b c) := by unfold isFm; rw [ha, hb, hc]; rfl
        rw [e]
        have HB : Hid (Bc a ∧ Bc b ∧ Bc c) := ⟨crd_iff.1 ha, crd_iff.1 hb, crd_iff.1 hc⟩
        have HD : Hid (∀ w, Calls Try.prog 32 #[.agg #[.int .i64 a, .int .i64 b, .int .i64 c]] w fun e w' => e = .returned (.int .i64 (dsc a b c)) ∧ Below w.heap.size w w') := fun w => l06Disc_any a b c w HB.out.1 HB.out.2.1 HB.out.2.2
        obtain ⟨d, hd⟩ : ∃ d, dsc a b c = d := ⟨_, rfl⟩
        rw [hd] at HD ⊢
        clear e hd
        cases hin : inB d 1 4000
        · have hf : isD d = false := by
            by_cases h1 : d < 1
            · exact isD_low h1
            · exact isD_high (by have := inB_not.1 hin; omega)
          rw [hf]
          clear hf
          go_enter Try.func25, Try.ntmps25
          go_wp2_with (first | (go_at_call 31; refine (fits_any _ _).mono ?_; rintro e wn ⟨rfl, rfl⟩) | (go_at_call 32; refine (HD.out _).mono ?_; rintro e wn ⟨rfl, hb⟩; first | (have h2 := after_call2 hb hcl hfr hlt (by ((repeat' (first | (with_reducible exact Below.refl _ _) | (with_reducible refine Below.alloc ?_ ?_ _) | (with_reducible refine Below.setCell ?_ ?_ _) | (with_reducible refine Below.drew ?_) | (with_reducible refine below_drewN ?_ _) | (with_reducible assumption) | (with_reducible refine below_after (by with_reducible assumption) ?_) | go_size)); done)); obtain ⟨hclx, hfrx, hltx, hsz⟩ := after_call hb; (try simp only [World.size_alloc, World.size_setCell, World.size_drew] at hclx hfrx hltx hsz); (try (have hszl := Nat.lt_of_succ_le hsz)); obtain ⟨hcl, hfr, hlt⟩ := h2) | (obtain ⟨hcl, hfr, hlt, hsz⟩ := after_call hb; (try simp only [World.size_alloc, World.size_setCell, World.size_drew] at hcl hfr hlt hsz))) | (go_at_call 33; refine (l01In_any _ _ _ _).mono ?_; rintro e wn ⟨rfl, rfl⟩))
          go_ret
          exact ⟨rfl, by (repeat' (first | (with_reducible exact Below.refl _ _) | (with_reducible refine Below.alloc ?_ ?_ _) | (with_reducible refine Below.setCell ?_ ?_ _) | (with_reducible refine Below.drew ?_) | (with_reducible refine below_drewN ?_ _) | (with_reducible assumption) | (with_reducible refine below_after (by with_reducible assumption) ?_) | go_size))⟩
        · obtain ⟨d1, d2⟩ := inB_iff.1 hin
          have HC : Hid (∀ w, Calls Try.prog 34 #[.int .i64 d] w fun e w' => e = .returned (.int .i64 (rtC d)) ∧ w = w') := fun w => l06Root_any d w d1 d2
          rw [isD_C d1 d2]
          obtain ⟨r0, r1⟩ := rtC_bd d1 d2
          obtain ⟨r, hr⟩ : ∃ r, rtC d = r := ⟨_, rfl⟩
          rw [hr] at HC r0 r1 ⊢
          clear hr
          have m1 : 0 ≤ r * r := Int.mul_nonneg (by omega) (by omega)
          have m2 : r * r ≤ 64 * 64 := sq_le (by omega) (by omega)
          go_enter Try.func25, Try.ntmps25
          go_wp2_with (first | (go_at_call 31; refine (fits_any _ _).mono ?_; rintro e wn ⟨rfl, rfl⟩) | (go_at_call 32; refine (HD.out _).mono ?_; rintro e wn ⟨rfl, hb⟩; first | (have h2 := after_call2 hb hcl hfr hlt (by ((repeat' (first | (with_reducible exact Below.refl _ _) | (with_reducible refine Below.alloc ?_ ?_ _) | (with_reducible refine Below.setCell ?_ ?_ _) | (with_reducible refine Below.drew ?_) | (with_reducible refine below_drewN ?_ _) | (with_reducible assumption) | (with_reducible refine below_after (by with_reducible assumption) ?_) | go_size)); done)); obtain ⟨hclx, hfrx, hltx, hsz⟩ := after_call hb; (try simp only [World.size_alloc, World.size_setCell, World.size_drew] at hclx hfrx hltx hsz); (try (have hszl := Nat.lt_of_succ_le hsz)); obtain ⟨hcl, hfr, hlt⟩ := h2) | (obtain ⟨hcl, hfr, hlt, hsz⟩ := after_call hb; (try simp only [World.size_alloc, World.size_setCell, World.size_drew] at hcl hfr hlt hsz))) | (go_at_call 33; refine (l01In_any _ _ _ _).mono ?_; rintro e wn ⟨rfl, rfl⟩) | (go_at_call 34; refine (HC.out _).mono ?_; rintro e wn ⟨rfl, rfl⟩))
          go_ret
          exact ⟨by first | rfl | simp | (congr; simp), by (repeat' (first | (with_reducible exact Below.refl _ _) | (with_reducible refine Below.alloc ?_ ?_ _) | (with_reducible refine Below.setCell ?_ ?_ _) | (with_reducible refine Below.drew ?_) | (with_reducible refine below_drewN ?_ _) | (with_reducible assumption) | (with_reducible refine below_after (by with_reducible assumption) ?_) | go_size))⟩
theorem fm_bc {a b c : Int} (h : isFm a b c = true) : Bc a ∧ Bc b ∧ Bc c := ⟨(isFm_parts h).1, (isFm_parts h).2.1, (isFm_parts h).2.2.1⟩
theorem max_abs (n : Int) : max n (-n) = absI n := by unfold absI; omega
theorem absI_bd {n : Int} (h : Bc n) : 0 ≤ absI n ∧ absI n ≤ 1000000 := by obtain ⟨h1, h2⟩ := h; unfold absI; omega
end Go.Proofs.Ytoikaclapccciaa
