/-
  Contracts of chapter 1's division and inverse modulo a number, with what they do to the world said sharply: they only draw (own work).
-/
import Derived.Test.YtoenlpkphekbnaaBase
namespace Go.Proofs.Ytoenlpkphekbnaa
open Go.ChangeShapes Go.WideShapes Go.ChangeAt Go.RowKit
set_option linter.unusedVariables false
set_option maxRecDepth 100000
set_option linter.unusedSimpArgs false

theorem divideDown_q (p q : Int) (w : World) (hq : 1 ≤ q) (hq2 : q ≤ 1000000) (hp1 : -1000000 ≤ p) (hp2 : p ≤ 1000000) :
    Calls Try.prog 93 #[.int .i64 p, .int .i64 q] w fun e w' => e = .returned (.tuple #[.int .i64 (p / q), .int .i64 (p % q)]) ∧ ∃ k, w' = w.drewN k := by
  have hq0 : ¬ q = 0 := by omega
  by_cases h : p < 0
  · obtain ⟨t1, t2, t3, t4, t5, t6⟩ := tdiv_down hq h
    by_cases hz : p.tmod q = 0
    · have HE := Lib.hid (t5 hz).1
      have HF := Lib.hid (t5 hz).2
      have HZ := Lib.hid hz
      have hzl : ¬ p.tmod q < 0 := by omega
      clear t5 t6 hz
      go_enter Try.func93, Try.ntmps93
      go_wp2
      go_quiet (fail)
      go_wp2
      go_ret2
      exact ⟨by rw [HE.out, HF.out, ← HZ.out]; rfl, _, rfl⟩
    · have HE := Lib.hid (t6 hz).1
      have HF := Lib.hid (t6 hz).2
      have hzl : p.tmod q < 0 := by omega
      clear t5 t6
      go_enter Try.func93, Try.ntmps93
      go_wp2
      go_quiet (fail)
      go_wp2
      go_ret2
      exact ⟨by rw [HE.out, HF.out]; rfl, _, rfl⟩
  · have hp0 : 0 ≤ p := by omega
    obtain ⟨u1, u2, u3, u4⟩ := floor_up hq hp0
    have hzl : ¬ p % q < 0 := by omega
    go_enter Try.func93, Try.ntmps93
    go_wp2
    go_quiet (fail)
    go_wp2
    go_ret2
    exact ⟨rfl, _, rfl⟩
theorem divideDown_qX (p q X : Int) (w : World) (hq : 1 ≤ q) (hq2 : q ≤ 1000000) (hp1 : -1000000 ≤ p) (hp2 : p ≤ 1000000) (h : Hid (p % q = X)) :
    Calls Try.prog 93 #[.int .i64 p, .int .i64 q] w fun e w' => e = .returned (.tuple #[.int .i64 (p / q), .int .i64 X]) ∧ ∃ k, w' = w.drewN k := by
  rw [← h.out]; exact divideDown_q p q w hq hq2 hp1 hp2
theorem absolute_q (x n : Int) (w : World) (h : Tn x) (hn : Hid (absI x = n)) : Calls Try.prog 74 #[.int .i64 x] w fun e w' => e = .returned (.int .i64 n) ∧ w' = w := by
  rw [← hn.out]; exact (absolute_any x w h).mono fun e w' ⟨he, hw⟩ => ⟨he, hw.symm⟩
/-- The program's loop as a plain function. -/
def euN : Nat → Int → Int → Int → Int → Int
  | 0, _, _, _, y => y
  | f + 1, l, n, x, y => if 1 < n then euN f n (l - l / n * n) y (x - l / n * y) else y
theorem euN_ok {m a : Int} : ∀ (f : Nat) (l n x y : Int), Euc m a l n x y → (n = 0 → m = 1) → n.toNat < f → -m ≤ euN f l n x y ∧ euN f l n x y ≤ m ∧ ∃ t, euN f l n x y * a + t * m = 1
  | 0, _, _, _, _, _, _, h => by omega
  | f + 1, l, n, x, y, he, hz, hf => by
    unfold euN
    by_cases hn : 1 < n
    · rw [if_pos hn]
      obtain ⟨s1, _, _, s4, s5, _⟩ := euc_step he (by omega)
      refine euN_ok f _ _ _ _ s1 (fun h => ?_) (by omega)
      exfalso
      have h2 := s1.2.2.1
      rw [h] at h2
      simp at h2
      omega
    · rw [if_neg hn]
      obtain ⟨_, ⟨t, ht⟩, _, _, _, n0, _, _, _, _, y1, y2⟩ := he
      refine ⟨y1, y2, ?_⟩
      by_cases h0 : n = 0
      · have hm := hz h0
        exact ⟨1 - y * a, by rw [hm]; omega⟩
      · exact ⟨t, by omega⟩
theorem euc_zero1 {m a : Int} (hm : 1 ≤ m) (hg : Int.gcd m a = 1) : a % m = 0 → m = 1 := by
  intro h
  have e := Int.emod_add_mul_ediv a m
  have e3 : a = m * (a / m) := by omega
  rw [e3] at hg
  simp at hg
  omega
theorem inverseModulo_q (a m : Int) (w : World) (hm1 : 1 ≤ m) (hm2 : m ≤ 1000000) (ha1 : -1000000 ≤ a) (ha2 : a ≤ 1000000) (hg : Int.gcd m a = 1) :
    Calls Try.prog 94 #[.int .i64 a, .int .i64 m] w fun e w' => e = .returned (.int .i64 (euN ((a % m).toNat + 1) m (a % m) 0 1)) ∧ ∃ k, w' = w.drewN k := by
  obtain ⟨R, hR⟩ : ∃ R, euN ((a % m).toNat + 1) m (a % m) 0 1 = R := ⟨_, rfl⟩
  rw [hR]
  have HR := Lib.hid hR
  have HG := Lib.hid hg
  clear hg hR
  go_enter Try.func94, Try.ntmps94
  go_wp2_with (first | (go_at_call 93; refine (divideDown_q a m _ hm1 hm2 ha1 ha2).mono ?_; rintro e wn ⟨rfl, kd, rfl⟩))
  go_loop [7, 8, 9, 10] (fun l n x y => ∃ l' n' x' y' : Int, ∃ f : Nat, l = .int .i64 l' ∧ n = .int .i64 n' ∧ x = .int .i64 x' ∧ y = .int .i64 y' ∧ Euc m a l' n' x' y' ∧ n'.toNat < f ∧ euN f l' n' x' y' = R) (fun _ n _ _ => (intOf n).toNat)
  case atStart => exact ⟨m, a % m, 0, 1, (a % m).toNat + 1, rfl, rfl, rfl, rfl, euc_first hm1 HG.out, by omega, HR.out⟩
  case round =>
    obtain ⟨l, n, x, y, f, rfl, rfl, rfl, rfl, he, hf, hr⟩ := hrel
    have HE := Lib.hid he
    have HF := Lib.hid hf
    have HQ := Lib.hid hr
    obtain ⟨_, _, hgc, l0, l1, n0, n1, _, x1, x2, y1, y2⟩ := he
    clear hr hf hgc
    by_cases hn : 1 < n
    · obtain ⟨s1, s2, s3, s4, s5, s6, s7, s8, s9⟩ := euc_step HE.out (by omega)
      have HS := Lib.hid s1
      have hmm := mm_bd hm1 hm2
      have hnz : ¬ n = 0 := by omega
      clear s1
      go_wp2
      go_round
      case rel =>
        have hf := HF.out
        have hq := HQ.out
        obtain ⟨g, rfl⟩ : ∃ g, f = g + 1 := ⟨f - 1, by omega⟩
        refine ⟨n, l - l / n * n, y, x - l / n * y, g, rfl, rfl, rfl, rfl, HS.out, by omega, ?_⟩
        rw [← hq, euN, if_pos hn]
      case measure => simp only [intOf]; omega
    · go_wp2
      go_ret
      have hf := HF.out
      have hq := HQ.out
      obtain ⟨g, rfl⟩ : ∃ g, f = g + 1 := ⟨f - 1, by omega⟩
      rw [euN, if_neg (by omega)] at hq
      exact ⟨by rw [← hq]; rfl, kd, rfl⟩
theorem inverseModulo_det (a m X : Int) (hm1 : 1 ≤ m) (hm2 : m ≤ 1000000) (ha1 : -1000000 ≤ a) (ha2 : a ≤ 1000000) (hg : Int.gcd m a = 1) (hX : MateX m a X) :
    ∃ y, (-1000000 ≤ y ∧ y ≤ 1000000 ∧ (-y) % m = X) ∧ ∀ w, Calls Try.prog 94 #[.int .i64 a, .int .i64 m] w fun e w' => e = .returned (.int .i64 y) ∧ ∃ k, w' = w.drewN k := by
  obtain ⟨h1, h2, t, ht⟩ := euN_ok ((a % m).toNat + 1) m (a % m) 0 1 (euc_first hm1 hg) (euc_zero1 hm1 hg) (by omega)
  exact ⟨_, ⟨by omega, by omega, mateX_of hX ht⟩, fun w => inverseModulo_q a m w hm1 hm2 ha1 ha2 hg⟩
end Go.Proofs.Ytoenlpkphekbnaa
