/-
  Contracts of chapter 10's small functions: ratios, numbers in their range, the rest and the quotient of great numbers, comparisons (own work).
-/
import Derived.Test.YtadikmjdmddkjaaFloor
import Derived.Test.YtadikmjdmddkjaaBeM
namespace Go.Proofs.Ytadikmjdmddkjaa
open Go.ChangeShapes Go.WideShapes Go.ChangeAt Go.RowKit
set_option linter.unusedVariables false
set_option linter.unusedSimpArgs false
set_option maxRecDepth 100000

def inB (n l h : Int) : Bool := decide (l ≤ n ∧ n ≤ h)
theorem inB_iff {n l h : Int} : inB n l h = true ↔ l ≤ n ∧ n ≤ h := by simp [inB]
theorem inB_not {n l h : Int} : inB n l h = false ↔ ¬ (l ≤ n ∧ n ≤ h) := by simp [inB]
theorem l01In_yes (n l h : Int) (w : World) (h1 : l ≤ n) (h2 : n ≤ h) : Calls Try.prog 48 #[.int .i64 n, .int .i64 l, .int .i64 h] w fun e w' => e = .returned (.bool true) ∧ w = w' := by
  go_enter Try.func48, Try.ntmps48
  go_wp2
  go_ret
  exact ⟨by simp [h2], rfl⟩
theorem l01In_no (n l h : Int) (w : World) (hn : ¬ (l ≤ n ∧ n ≤ h)) : Calls Try.prog 48 #[.int .i64 n, .int .i64 l, .int .i64 h] w fun e w' => e = .returned (.bool false) ∧ w = w' := by
  by_cases h1 : l ≤ n
  · have h2 : ¬ n ≤ h := by omega
    clear hn
    go_enter Try.func48, Try.ntmps48
    go_wp2
    go_ret
    exact ⟨by simp [h2], rfl⟩
  · have hd : decide (l ≤ n) = false := by simpa using h1
    clear hn
    go_enter Try.func48, Try.ntmps48
    go_wp2
    go_ret
    exact ⟨by simp [hd], rfl⟩
theorem l01In_any (n l h : Int) (w : World) : Calls Try.prog 48 #[.int .i64 n, .int .i64 l, .int .i64 h] w fun e w' => e = .returned (.bool (inB n l h)) ∧ w = w' := by
  cases hb : inB n l h
  · exact l01In_no n l h w (inB_not.1 hb)
  · exact l01In_yes n l h w (inB_iff.1 hb).1 (inB_iff.1 hb).2
def rtB (p q l : Int) : Bool := crd p && inB q l 1000000
theorem rtB_iff {p q l : Int} : rtB p q l = true ↔ (-1000000 ≤ p ∧ p ≤ 1000000) ∧ l ≤ q ∧ q ≤ 1000000 := by
  unfold rtB; rw [Bool.and_eq_true, crd_iff, inB_iff]
theorem l01Floor_big (p q : Int) (w : World) (hq : 1 ≤ q) (hq2 : q ≤ 1000000000000000) (hp1 : -1000000000000000 ≤ p) (hp2 : p ≤ 1000000000000000) :
    Calls Try.prog 42 #[.int .i64 p, .int .i64 q] w fun e w' => e = .returned (.int .i64 (p / q)) ∧ w = w' := by
  have hq0 : ¬ q = 0 := by omega
  have hqn : ¬ q < 0 := by omega
  have hqd : decide (q < 0) = false := by simpa using hqn
  by_cases h : p < 0
  · obtain ⟨t1, t2, t3, t4, t5, t6⟩ := tdiv_down hq h
    have hpd : decide (p < 0) = true := by simpa using h
    by_cases hz : p.tmod q = 0
    · have HE := Lib.hid (t5 hz).1
      have hzb : (p.tmod q == 0) = true := by simpa using hz
      clear t5 t6 hz
      go_enter Try.func42, Try.ntmps42
      go_wp2
      go_ret
      exact ⟨by rw [HE.out]; rfl, rfl⟩
    · have HE := Lib.hid (t6 hz).1
      have hzb : (p.tmod q == 0) = false := by simpa using hz
      clear t5 t6
      go_enter Try.func42, Try.ntmps42
      go_wp2
      go_ret
      exact ⟨by rw [HE.out]; rfl, rfl⟩
  · have hp0 : 0 ≤ p := by omega
    have hpd : decide (p < 0) = false := by simpa using h
    obtain ⟨u1, u2, u3, u4⟩ := floor_up hq hp0
    go_enter Try.func42, Try.ntmps42
    go_wp2
    all_goals
      go_ret
      exact ⟨rfl, rfl⟩
def cmI (a b : Int) : Int := if a < b then -1 else if b < a then 1 else 0
end Go.Proofs.Ytadikmjdmddkjaa
