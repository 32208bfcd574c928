/-
  Contracts of chapter 10's small functions: ratios, numbers in their range, the rest and the quotient of great numbers, comparisons (own work).
-/
import Derived.Test.YtibmkmcdggokbaaFloor
import Derived.Test.YtibmkmcdggokbaaBeM
namespace Go.Proofs.Ytibmkmcdggokbaa
open Go.ChangeShapes Go.WideShapes Go.ChangeAt Go.RowKit
set_option linter.unusedVariables false
set_option linter.unusedSimpArgs false
set_option maxRecDepth 100000

def inB (n l h : Int) : Bool := decide (l ≤ n ∧ n ≤ h)
theorem inB_iff {n l h : Int} : inB n l h = true ↔ l ≤ n ∧ n ≤ h := by simp [inB]
theorem inB_not {n l h : Int} : inB n l h = false ↔ ¬ (l ≤ n ∧ n ≤ h) := by simp [inB]
theorem l01In_yes (n l h : Int) (w : World) (h1 : l ≤ n) (h2 : n ≤ h) : Calls Try.prog 24 #[.int .i64 n, .int .i64 l, .int .i64 h] w fun e w' => e = .returned (.bool true) ∧ w = w' := by
  go_enter Try.func24, Try.ntmps24
  go_wp2
  go_ret
  exact ⟨by simp [h2], rfl⟩
theorem l01In_no (n l h : Int) (w : World) (hn : ¬ (l ≤ n ∧ n ≤ h)) : Calls Try.prog 24 #[.int .i64 n, .int .i64 l, .int .i64 h] w fun e w' => e = .returned (.bool false) ∧ w = w' := by
  by_cases h1 : l ≤ n
  · have h2 : ¬ n ≤ h := by omega
    clear hn
    go_enter Try.func24, Try.ntmps24
    go_wp2
    go_ret
    exact ⟨by simp [h2], rfl⟩
  · have hd : decide (l ≤ n) = false := by simpa using h1
    clear hn
    go_enter Try.func24, Try.ntmps24
    go_wp2
    go_ret
    exact ⟨by simp [hd], rfl⟩
theorem l01In_any (n l h : Int) (w : World) : Calls Try.prog 24 #[.int .i64 n, .int .i64 l, .int .i64 h] w fun e w' => e = .returned (.bool (inB n l h)) ∧ w = w' := by
  cases hb : inB n l h
  · exact l01In_no n l h w (inB_not.1 hb)
  · exact l01In_yes n l h w (inB_iff.1 hb).1 (inB_iff.1 hb).2
theorem isUpTo_any (n h : Int) (w : World) : Calls Try.prog 36 #[.int .i64 n, .int .i64 h] w fun e w' => e = .returned (.bool (inB n 1 h)) ∧ w = w' := by
  by_cases h1 : 1 ≤ n
  · by_cases h2 : n ≤ h
    · have HE := Lib.hid (inB_iff.2 ⟨h1, h2⟩)
      go_enter Try.func36, Try.ntmps36
      go_wp2
      go_ret
      rw [HE.out]
      exact ⟨by simp [h2], rfl⟩
    · have HE := Lib.hid (inB_not.2 (show ¬ (1 ≤ n ∧ n ≤ h) by omega))
      go_enter Try.func36, Try.ntmps36
      go_wp2
      go_ret
      rw [HE.out]
      exact ⟨by simp [h2], rfl⟩
  · have HE := Lib.hid (inB_not.2 (show ¬ (1 ≤ n ∧ n ≤ h) by omega))
    have hd : decide (1 ≤ n) = false := by simpa using h1
    go_enter Try.func36, Try.ntmps36
    go_wp2
    go_ret
    rw [HE.out]
    exact ⟨by simp [hd], rfl⟩
def rtB (p q l : Int) : Bool := crd p && inB q l 1000000
theorem rtB_iff {p q l : Int} : rtB p q l = true ↔ (-1000000 ≤ p ∧ p ≤ 1000000) ∧ l ≤ q ∧ q ≤ 1000000 := by
  unfold rtB; rw [Bool.and_eq_true, crd_iff, inB_iff]
theorem isRatio_any (p q : Int) (w : World) : Calls Try.prog 31 #[.int .i64 p, .int .i64 q] w fun e w' => e = .returned (.bool (rtB p q 1)) ∧ w = w' := by
  cases cp : crd p
  · have HE := Lib.hid (show rtB p q 1 = false by simp [rtB, cp])
    go_enter Try.func31, Try.ntmps31
    go_wp2_with (go_at_call 47; refine (isCoord_any _ _).mono ?_; rintro e wn ⟨rfl, rfl⟩)
    go_ret
    rw [HE.out]
    exact ⟨by simp, rfl⟩
  · cases cq : crd q
    · have HE := Lib.hid (show rtB p q 1 = false by
        cases hb : rtB p q 1 with
        | false => rfl
        | true => have := rtB_iff.1 hb; have : crd q = true := crd_iff.2 (by omega); rw [cq] at this; cases this)
      go_enter Try.func31, Try.ntmps31
      go_wp2_with (go_at_call 47; refine (isCoord_any _ _).mono ?_; rintro e wn ⟨rfl, rfl⟩)
      go_ret
      rw [HE.out]
      exact ⟨by simp, rfl⟩
    · have hp := crd_iff.1 cp
      have hq := crd_iff.1 cq
      have HE := Lib.hid (show rtB p q 1 = decide (1 ≤ q) by
        by_cases h1 : 1 ≤ q
        · rw [rtB_iff.2 ⟨hp, h1, by omega⟩]; simp [h1]
        · cases hb : rtB p q 1 with
          | true => have := rtB_iff.1 hb; omega
          | false => simp [h1])
      clear hp hq
      go_enter Try.func31, Try.ntmps31
      go_wp2_with (go_at_call 47; refine (isCoord_any _ _).mono ?_; rintro e wn ⟨rfl, rfl⟩)
      go_ret
      rw [HE.out]
      exact ⟨by simp, rfl⟩
theorem l10Ratio_any (p q l : Int) (w : World) : Calls Try.prog 23 #[.int .i64 p, .int .i64 q, .int .i64 l] w fun e w' => e = .returned (.bool (rtB p q l)) ∧ w = w' := by
  cases cp : crd p
  · have HE := Lib.hid (show rtB p q l = false by simp [rtB, cp])
    go_enter Try.func23, Try.ntmps23
    go_wp2_with (first | (go_at_call 41; refine (fits_any _ _).mono ?_; rintro e wn ⟨rfl, rfl⟩) | (go_at_call 24; refine (l01In_any _ _ _ _).mono ?_; rintro e wn ⟨rfl, rfl⟩))
    go_ret
    rw [HE.out]
    exact ⟨by simp, rfl⟩
  · have HE := Lib.hid (show rtB p q l = inB q l 1000000 by simp [rtB, cp])
    go_enter Try.func23, Try.ntmps23
    go_wp2_with (first | (go_at_call 41; refine (fits_any _ _).mono ?_; rintro e wn ⟨rfl, rfl⟩) | (go_at_call 24; refine (l01In_any _ _ _ _).mono ?_; rintro e wn ⟨rfl, rfl⟩))
    go_ret
    rw [HE.out]
    exact ⟨by simp, rfl⟩
theorem l01Floor_big (p q : Int) (w : World) (hq : 1 ≤ q) (hq2 : q ≤ 1000000000000000) (hp1 : -1000000000000000 ≤ p) (hp2 : p ≤ 1000000000000000) :
    Calls Try.prog 53 #[.int .i64 p, .int .i64 q] w fun e w' => e = .returned (.int .i64 (p / q)) ∧ w = w' := by
  have hq0 : ¬ q = 0 := by omega
  have hqn : ¬ q < 0 := by omega
  have hqd : decide (q < 0) = false := by simpa using hqn
  by_cases h : p < 0
  · obtain ⟨t1, t2, t3, t4, t5, t6⟩ := tdiv_down hq h
    have hpd : decide (p < 0) = true := by simpa using h
    by_cases hz : p.tmod q = 0
    · have HE := Lib.hid (t5 hz).1
      have hzb : (p.tmod q == 0) = true := by simpa using hz
      clear t5 t6 hz
      go_enter Try.func53, Try.ntmps53
      go_wp2
      go_ret
      exact ⟨by rw [HE.out]; rfl, rfl⟩
    · have HE := Lib.hid (t6 hz).1
      have hzb : (p.tmod q == 0) = false := by simpa using hz
      clear t5 t6
      go_enter Try.func53, Try.ntmps53
      go_wp2
      go_ret
      exact ⟨by rw [HE.out]; rfl, rfl⟩
  · have hp0 : 0 ≤ p := by omega
    have hpd : decide (p < 0) = false := by simpa using h
    obtain ⟨u1, u2, u3, u4⟩ := floor_up hq hp0
    go_enter Try.func53, Try.ntmps53
    go_wp2
    all_goals
      go_ret
      exact ⟨rfl, rfl⟩
def cmI (a b : Int) : Int := if a < b then -1 else if b < a then 1 else 0
theorem isNaN_any (a : Int) (w : World) : Calls Try.prog 49 #[.int .i64 a] w fun e w' => e = .returned (.bool false) ∧ w = w' := by
  go_enter Try.func49, Try.ntmps49
  go_wp2_with fail
  all_goals
    go_ret
    first | exact ⟨rfl, rfl⟩ | simp
theorem cmI_any (a b : Int) (w : World) : Calls Try.prog 33 #[.int .i64 a, .int .i64 b] w fun e w' => e = .returned (.int .i64 (cmI a b)) ∧ w = w' := by
  by_cases h1 : a < b
  · have HE : Hid (cmI a b = -1) := if_pos h1
    go_enter Try.func33, Try.ntmps33
    go_wp2_with (go_at_call 49; refine (isNaN_any _ _).mono ?_; rintro e wn ⟨rfl, rfl⟩)
    rw [HE.out]
    go_ret
    exact ⟨rfl, rfl⟩
  · by_cases h2 : b < a
    · have HE : Hid (cmI a b = 1) := (if_neg h1).trans (if_pos h2)
      go_enter Try.func33, Try.ntmps33
      go_wp2_with (go_at_call 49; refine (isNaN_any _ _).mono ?_; rintro e wn ⟨rfl, rfl⟩)
      rw [HE.out]
      go_ret
      exact ⟨rfl, rfl⟩
    · have HE : Hid (cmI a b = 0) := (if_neg h1).trans (if_neg h2)
      go_enter Try.func33, Try.ntmps33
      go_wp2_with (go_at_call 49; refine (isNaN_any _ _).mono ?_; rintro e wn ⟨rfl, rfl⟩)
      rw [HE.out]
      go_ret
      exact ⟨rfl, rfl⟩
end Go.Proofs.Ytibmkmcdggokbaa
