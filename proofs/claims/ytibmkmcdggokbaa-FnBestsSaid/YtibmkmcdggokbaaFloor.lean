/-
  Contracts of chapter 1's division rounded down, and the expansion as a plain list (own work).
-/
import Derived.Test.YtibmkmcdggokbaaGcd
namespace Go.Proofs.Ytibmkmcdggokbaa
open Go.ChangeShapes Go.WideShapes Go.ChangeAt Go.RowKit
set_option linter.unusedVariables false
set_option linter.unusedSimpArgs false

theorem tdiv_down {p q : Int} (hq : 1 ≤ q) (hp : p < 0) : -q < p.tmod q ∧ p.tmod q ≤ 0 ∧ p ≤ p.tdiv q ∧ p.tdiv q ≤ 0 ∧ (p.tmod q = 0 → p / q = p.tdiv q ∧ p % q = 0) ∧ (p.tmod q ≠ 0 → p / q = p.tdiv q - 1 ∧ p % q = p.tmod q + q) := by
  have e := Int.tmod_add_mul_tdiv p q
  have l : (p.tmod q).natAbs < q.natAbs := tmod_lt p q (by omega)
  have s : p.tmod q ≤ 0 := by
    have := Int.neg_tmod (-p) q
    rw [Int.neg_neg] at this
    have h2 : 0 ≤ (-p).tmod q := Int.tmod_nonneg _ (by omega)
    omega
  have d : p.tdiv q ≤ 0 := by
    have := Int.neg_tdiv (-p) q
    rw [Int.neg_neg] at this
    have h2 : 0 ≤ (-p).tdiv q := Int.tdiv_nonneg (by omega) (by omega)
    omega
  have lo : p ≤ p.tdiv q := by
    have : 0 ≤ (q - 1) * (-(p.tdiv q)) := Int.mul_nonneg (by omega) (by omega)
    rw [Int.sub_mul, Int.mul_neg, Int.one_mul] at this
    omega
  refine ⟨by omega, s, lo, d, fun h => ?_, fun h => ?_⟩
  · have := (Int.ediv_emod_unique (a := p) (b := q) (r := 0) (q := p.tdiv q) (by omega)).2 ⟨by omega, by omega, by omega⟩
    exact this
  · have := (Int.ediv_emod_unique (a := p) (b := q) (r := p.tmod q + q) (q := p.tdiv q - 1) (by omega)).2 ⟨by rw [Int.mul_sub]; omega, by omega, by omega⟩
    exact this

theorem floor_up {p q : Int} (hq : 1 ≤ q) (hp : 0 ≤ p) : 0 ≤ p / q ∧ p / q ≤ p ∧ 0 ≤ p % q ∧ p % q < q :=
  ⟨Int.ediv_nonneg hp (by omega), Int.ediv_le_self _ hp, Int.emod_nonneg _ (by omega), Int.emod_lt_of_pos _ (by omega)⟩
theorem floor_bd {p q : Int} (hq : 1 ≤ q) (hl : -1000000 ≤ p) (hu : p ≤ 1000000) : -1000001 ≤ p / q ∧ p / q ≤ 1000000 ∧ 0 ≤ p % q ∧ p % q < q := by
  by_cases h : p < 0
  · obtain ⟨_, _, a, b, c, d⟩ := tdiv_down hq h
    by_cases hz : p.tmod q = 0
    · have := c hz; exact ⟨by omega, by omega, by omega, by omega⟩
    · have := d hz; exact ⟨by omega, by omega, by omega, by omega⟩
  · have := floor_up hq (by omega : 0 ≤ p); exact ⟨by omega, by omega, by omega, by omega⟩

def expN : Nat → Int → Int → List Int
  | 0, _, _ => []
  | f + 1, p, q => if q = 0 then [] else (p / q) :: expN f q (p % q)
/-- The expansion of p / q, for q of at least 0. -/
def expI (p q : Int) : List Int := expN (q.toNat + 1) p q
theorem expN_same : ∀ (f g : Nat) (p q : Int), 0 ≤ q → q.toNat < f → q.toNat < g → expN f p q = expN g p q
  | 0, _, _, _, _, h, _ => by omega
  | _, 0, _, _, _, _, h => by omega
  | f + 1, g + 1, p, q, h0, hf, hg => by
    unfold expN
    by_cases hz : q = 0
    · rw [if_pos hz, if_pos hz]
    · rw [if_neg hz, if_neg hz]
      have h1 := Int.emod_nonneg p hz
      have h2 := Int.emod_lt_of_pos p (by omega : 0 < q)
      rw [expN_same f g q (p % q) h1 (by omega) (by omega)]
theorem expI_zero (p : Int) : expI p 0 = [] := by simp [expI, expN]
theorem expI_step (p q : Int) (h : 1 ≤ q) : expI p q = (p / q) :: expI q (p % q) := by
  have h1 := Int.emod_nonneg p (by omega : q ≠ 0)
  have h2 := Int.emod_lt_of_pos p (by omega : 0 < q)
  show expN (q.toNat + 1) p q = _
  unfold expN
  rw [if_neg (by omega)]
  rw [expN_same q.toNat ((p % q).toNat + 1) q (p % q) h1 (by omega) (by omega)]
  rfl
theorem expN_len : ∀ (f : Nat) (p q : Int), (expN f p q).length ≤ f
  | 0, _, _ => by simp [expN]
  | f + 1, p, q => by
    unfold expN
    split
    · simp
    · simp only [List.length_cons]; have := expN_len f q (p % q); omega
theorem expI_len (p q : Int) : (expI p q).length ≤ q.toNat + 1 := expN_len _ _ _

theorem l01Floor_any (p q : Int) (w : World) (hq : 1 ≤ q) (hq2 : q ≤ 1000000) (hp1 : -1000000 ≤ p) (hp2 : p ≤ 1000000) :
    Calls Try.prog 53 #[.int .i64 p, .int .i64 q] w fun e w' => e = .returned (.int .i64 (p / q)) ∧ w = w' := by
  have hq0 : ¬ q = 0 := by omega
  have hqn : ¬ q < 0 := by omega
  have hqd : decide (q < 0) = false := by simpa using hqn
  by_cases h : p < 0
  · obtain ⟨t1, t2, t3, t4, t5, t6⟩ := tdiv_down hq h
    have hpd : decide (p < 0) = true := by simpa using h
    by_cases hz : p.tmod q = 0
    · have HE := Lib.hid (t5 hz).1
      have hzb : (p.tmod q == 0) = true := by simpa using hz
      clear t5 t6 hz
      go_enter Try.func53, Try.ntmps53
      go_wp2
      go_ret
      exact ⟨by rw [HE.out]; rfl, rfl⟩
    · have HE := Lib.hid (t6 hz).1
      have hzb : (p.tmod q == 0) = false := by simpa using hz
      clear t5 t6
      go_enter Try.func53, Try.ntmps53
      go_wp2
      go_ret
      exact ⟨by rw [HE.out]; rfl, rfl⟩
  · have hp0 : 0 ≤ p := by omega
    have hpd : decide (p < 0) = false := by simpa using h
    obtain ⟨u1, u2, u3, u4⟩ := floor_up hq hp0
    go_enter Try.func53, Try.ntmps53
    go_wp2
    all_goals
      go_ret
      exact ⟨rfl, rfl⟩
theorem divideDown_any (p q : Int) (w : World) (hq : 1 ≤ q) (hq2 : q ≤ 1000000000000000) (hp1 : -1000000000000000 ≤ p) (hp2 : p ≤ 1000000000000000) :
    Calls Try.prog 50 #[.int .i64 p, .int .i64 q] w fun e w' => e = .returned (.tuple #[.int .i64 (p / q), .int .i64 (p % q)]) ∧ Below w.heap.size w w' := by
  have hq0 : ¬ q = 0 := by omega
  by_cases h : p < 0
  · obtain ⟨t1, t2, t3, t4, t5, t6⟩ := tdiv_down hq h
    by_cases hz : p.tmod q = 0
    · have HE := Lib.hid (t5 hz).1
      have HF := Lib.hid (t5 hz).2
      have HZ := Lib.hid hz
      have hzl : ¬ p.tmod q < 0 := by omega
      clear t5 t6 hz
      go_enter Try.func50, Try.ntmps50
      go_wp2
      go_quiet (fail)
      go_wp2
      go_ret2
      exact ⟨by rw [HE.out, HF.out, ← HZ.out]; rfl, by (repeat' (first | (with_reducible exact Below.refl _ _) | (with_reducible refine Below.alloc ?_ ?_ _) | (with_reducible refine Below.setCell ?_ ?_ _) | (with_reducible refine Below.drew ?_) | (with_reducible refine below_drewN ?_ _) | (with_reducible assumption) | (with_reducible refine below_after (by with_reducible assumption) ?_) | go_size))⟩
    · have HE := Lib.hid (t6 hz).1
      have HF := Lib.hid (t6 hz).2
      have hzl : p.tmod q < 0 := by omega
      clear t5 t6
      go_enter Try.func50, Try.ntmps50
      go_wp2
      go_quiet (fail)
      go_wp2
      go_ret2
      exact ⟨by rw [HE.out, HF.out]; rfl, by (repeat' (first | (with_reducible exact Below.refl _ _) | (with_reducible refine Below.alloc ?_ ?_ _) | (with_reducible refine Below.setCell ?_ ?_ _) | (with_reducible refine Below.drew ?_) | (with_reducible refine below_drewN ?_ _) | (with_reducible assumption) | (with_reducible refine below_after (by with_reducible assumption) ?_) | go_size))⟩
  · have hp0 : 0 ≤ p := by omega
    obtain ⟨u1, u2, u3, u4⟩ := floor_up hq hp0
    have hzl : ¬ p % q < 0 := by omega
    go_enter Try.func50, Try.ntmps50
    go_wp2
    go_quiet (fail)
    go_wp2
    go_ret2
    exact ⟨rfl, by (repeat' (first | (with_reducible exact Below.refl _ _) | (with_reducible refine Below.alloc ?_ ?_ _) | (with_reducible refine Below.setCell ?_ ?_ _) | (with_reducible refine Below.drew ?_) | (with_reducible refine below_drewN ?_ _) | (with_reducible assumption) | (with_reducible refine below_after (by with_reducible assumption) ?_) | go_size))⟩
end Go.Proofs.Ytibmkmcdggokbaa
