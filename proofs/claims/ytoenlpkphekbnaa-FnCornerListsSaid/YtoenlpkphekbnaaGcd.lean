/-
  Contracts of chapter 1's greatest common divisors and absolute values (own work).
-/
import Derived.Test.YtoenlpkphekbnaaAlg
namespace Go.Proofs.Ytoenlpkphekbnaa
open Go.ChangeShapes Go.WideShapes Go.ChangeAt Go.RowKit
set_option linter.unusedVariables false
set_option maxRecDepth 100000
set_option linter.unusedSimpArgs false

theorem ret_int {k : IntKind} {a b : Int} (h : a = b) : Ending.returned (.int k a) = .returned (.int k b) := by rw [h]
def gcdI (a b : Int) : Int := (Int.gcd a b : Int)
def absI (a : Int) : Int := (a.natAbs : Int)
theorem gcd_step (a b : Int) : Int.gcd b (a.tmod b) = Int.gcd a b := by
  unfold Int.gcd
  rw [Int.natAbs_tmod, Nat.gcd_comm, ← Nat.gcd_rec, Nat.gcd_comm]
theorem tmod_lt (a b : Int) (hb : b ≠ 0) : (a.tmod b).natAbs < b.natAbs := by
  rw [Int.natAbs_tmod]; exact Nat.mod_lt _ (by omega)
theorem gcd_zero (a : Int) : gcdI a 0 = absI a := by simp [gcdI, absI]
/-- A number of at most a trillion and more in absolute value. -/
def Tn (n : Int) : Prop := -1000000000000000000 ≤ n ∧ n ≤ 1000000000000000000
theorem Bn.tn {n : Int} (h : Bn n) : Tn n := by unfold Bn at h; unfold Tn; omega
theorem tmod_tn {a b : Int} (hb : b ≠ 0) (h : Tn b) : Tn (a.tmod b) := by
  have := tmod_lt a b hb
  unfold Tn at *
  omega

theorem absolute_any (n : Int) (w : World) (h : Tn n) : Calls Try.prog 74 #[.int .i64 n] w fun e w' => e = .returned (.int .i64 (absI n)) ∧ w = w' := by
  obtain ⟨h1, h2⟩ := h
  by_cases hn : n < 0
  · have hab : absI n = -n := by unfold absI; omega
    have HA := Lib.hid hab
    clear hab
    go_enter Try.func74, Try.ntmps74
    go_wp2
    go_ret
    exact ⟨by rw [HA.out]; rfl, rfl⟩
  · have hab : absI n = n := by unfold absI; omega
    have HA := Lib.hid hab
    clear hab
    go_enter Try.func74, Try.ntmps74
    go_wp2
    go_ret
    exact ⟨by rw [HA.out]; rfl, rfl⟩
theorem greatestDivisor_any (a b : Int) (w : World) (ha : Tn a) (hb : Tn b) :
    Calls Try.prog 91 #[.int .i64 a, .int .i64 b] w fun e w' => e = .returned (.int .i64 (gcdI a b)) ∧ Below w.heap.size w w' := by
  obtain ⟨g, hg⟩ : ∃ g, gcdI a b = g := ⟨_, rfl⟩
  have HG := Lib.hid hg
  rw [hg]
  clear hg
  have HA := Lib.hid ha
  have HB := Lib.hid hb
  clear ha hb
  go_enter Try.func91, Try.ntmps91
  go_wp2
  go_loopw [0, 1] (fun x y wr => ∃ p q : Int, x = .int .i64 p ∧ y = .int .i64 q ∧ Tn p ∧ Tn q ∧ gcdI p q = g ∧ Below w.heap.size w wr) (fun _ y _ => (intOf y).natAbs)
  case atStart => exact ⟨a, b, rfl, rfl, HA.out, HB.out, HG.out, Below.refl _ _⟩
  case round =>
    obtain ⟨p, q, rfl, rfl, hp, hq, hpq, hbel⟩ := hrel
    have HP := Lib.hid hp
    have HQ := Lib.hid hq
    have HE := Lib.hid hpq
    clear hp hq hpq
    by_cases hz : q = 0
    · subst hz
      go_wp2_with (go_at_call 74; refine (absolute_any _ _ HP.out).mono ?_; rintro e wn ⟨rfl, rfl⟩)
      go_ret
      exact ⟨by rw [← HE.out, gcd_zero]; rfl, by (repeat' (first | (with_reducible exact Below.refl _ _) | (with_reducible refine Below.alloc ?_ ?_ _) | (with_reducible refine Below.setCell ?_ ?_ _) | (with_reducible refine Below.drew ?_) | (with_reducible refine below_drewN ?_ _) | (with_reducible assumption) | (with_reducible refine below_after (by with_reducible assumption) ?_) | go_size))⟩
    · have hq0 : (q == 0) = false := by simpa using hz
      have HZ := Lib.hid hz
      have hq1 := HQ.out.1
      have hq2 := HQ.out.2
      have hp1 := HP.out.1
      have hp2 := HP.out.2
      go_wp2
      go_quiet (fail)
      go_wp2
      go_roundw
      case rel => exact ⟨q, p.tmod q, rfl, rfl, HQ.out, tmod_tn HZ.out HQ.out, by rw [← HE.out]; simp only [gcdI, gcd_step], by (repeat' (first | (with_reducible exact Below.refl _ _) | (with_reducible refine Below.alloc ?_ ?_ _) | (with_reducible refine Below.setCell ?_ ?_ _) | (with_reducible refine Below.drew ?_) | (with_reducible refine below_drewN ?_ _) | (with_reducible assumption) | (with_reducible refine below_after (by with_reducible assumption) ?_) | go_size))⟩
      case measure => simp only [intOf]; exact tmod_lt _ _ HZ.out
theorem l01Gcd_any (a b : Int) (w : World) (ha : Tn a) (hb : Tn b) :
    Calls Try.prog 96 #[.int .i64 a, .int .i64 b] w fun e w' => e = .returned (.int .i64 (gcdI a b)) ∧ w = w' := by
  obtain ⟨g, hg⟩ : ∃ g, gcdI a b = g := ⟨_, rfl⟩
  have HG := Lib.hid hg
  rw [hg]
  clear hg
  have HA := Lib.hid ha
  have HB := Lib.hid hb
  clear ha hb
  go_enter Try.func96, Try.ntmps96
  go_wp2
  go_loop [0, 1] (fun x y => ∃ p q : Int, x = .int .i64 p ∧ y = .int .i64 q ∧ Tn p ∧ Tn q ∧ gcdI p q = g) (fun _ y => (intOf y).natAbs)
  case atStart => exact ⟨a, b, rfl, rfl, HA.out, HB.out, HG.out⟩
  case round =>
    obtain ⟨p, q, rfl, rfl, hp, hq, hpq⟩ := hrel
    have HP := Lib.hid hp
    have HQ := Lib.hid hq
    have HE := Lib.hid hpq
    clear hp hq hpq
    have hp1 := HP.out.1
    have hp2 := HP.out.2
    by_cases hz : q = 0
    · subst hz
      go_wp2
      all_goals
        go_ret
        exact ⟨ret_int (by rw [← HE.out, gcd_zero]; unfold absI; omega), rfl⟩
    · have hq0 : (q == 0) = false := by simpa using hz
      have HZ := Lib.hid hz
      have hq1 := HQ.out.1
      have hq2 := HQ.out.2
      clear hz
      go_wp2
      go_round
      case rel => exact ⟨q, p.tmod q, rfl, rfl, HQ.out, tmod_tn HZ.out HQ.out, by rw [← HE.out]; simp only [gcdI, gcd_step]⟩
      case measure => simp only [intOf]; exact tmod_lt _ _ HZ.out
end Go.Proofs.Ytoenlpkphekbnaa
