/-
  Contracts of chapter 1's inverses modulo a number, in the program and in the model (own work).
-/
import Derived.Test.YtoenlpkphekbnaaMateM
namespace Go.Proofs.Ytoenlpkphekbnaa
open Go.ChangeShapes Go.WideShapes Go.ChangeAt Go.RowKit
set_option linter.unusedVariables false
set_option maxRecDepth 100000
set_option linter.unusedSimpArgs false

theorem mm_bd {m : Int} (h1 : 1 ≤ m) (h2 : m ≤ 1000000) : m * m ≤ 1000000000000 := by
  have := (mul_bd (a := m) (b := m) (A := 1000000) (B := 1000000) (by omega) h2 (by omega) h2).2
  omega
theorem inverseModulo_any (a m : Int) (w : World) (hm1 : 1 ≤ m) (hm2 : m ≤ 1000000) (ha1 : -1000000 ≤ a) (ha2 : a ≤ 1000000) (hg : Int.gcd m a = 1) :
    Calls Try.prog 94 #[.int .i64 a, .int .i64 m] w fun e w' => (∃ y, e = .returned (.int .i64 y) ∧ -m ≤ y ∧ y ≤ m ∧ ∃ t, y * a + t * m = 1) ∧ Below w.heap.size w w' := by
  have HG := Lib.hid hg
  clear hg
  go_enter Try.func94, Try.ntmps94
  go_wp2_with (first | (go_at_call 93; refine (divideDown_any a m _ hm1 (by omega) (by omega) (by omega)).mono ?_; rintro e wn ⟨rfl, hb⟩; first | (have h2 := after_call2 hb hcl hfr hlt (by ((repeat' (first | (with_reducible exact Below.refl _ _) | (with_reducible refine Below.alloc ?_ ?_ _) | (with_reducible refine Below.setCell ?_ ?_ _) | (with_reducible refine Below.drew ?_) | (with_reducible refine below_drewN ?_ _) | (with_reducible assumption) | (with_reducible refine below_after (by with_reducible assumption) ?_) | go_size)); done)); obtain ⟨hclx, hfrx, hltx, hsz⟩ := after_call hb; (try simp only [World.size_alloc, World.size_setCell, World.size_drew] at hclx hfrx hltx hsz); (try (have hszl := Nat.lt_of_succ_le hsz)); obtain ⟨hcl, hfr, hlt⟩ := h2) | (obtain ⟨hcl, hfr, hlt, hsz⟩ := after_call hb; (try simp only [World.size_alloc, World.size_setCell, World.size_drew] at hcl hfr hlt hsz))))
  go_loopw [7, 8, 9, 10] (fun l n x y wr => ∃ l' n' x' y' : Int, l = .int .i64 l' ∧ n = .int .i64 n' ∧ x = .int .i64 x' ∧ y = .int .i64 y' ∧ Euc m a l' n' x' y' ∧ (n' = 0 → m = 1) ∧ Below w.heap.size w wr) (fun _ n _ _ _ => (intOf n).toNat)
  case atStart =>
    refine ⟨m, a % m, 0, 1, rfl, rfl, rfl, rfl, euc_first hm1 HG.out, fun h => ?_, by (repeat' (first | (with_reducible exact Below.refl _ _) | (with_reducible refine Below.alloc ?_ ?_ _) | (with_reducible refine Below.setCell ?_ ?_ _) | (with_reducible refine Below.drew ?_) | (with_reducible refine below_drewN ?_ _) | (with_reducible assumption) | (with_reducible refine below_after (by with_reducible assumption) ?_) | go_size))⟩
    have := HG.out
    have e := Int.emod_add_mul_ediv a m
    have e3 : a = m * (a / m) := by omega
    rw [e3] at this
    simp at this
    omega
  case round =>
    obtain ⟨l, n, x, y, rfl, rfl, rfl, rfl, he, hz, hbel⟩ := hrel
    have HE := Lib.hid he
    have HZ := Lib.hid hz
    have HB := Lib.hid hbel
    obtain ⟨_, _, hgc, l0, l1, n0, n1, _, x1, x2, y1, y2⟩ := he
    clear hz hbel
    by_cases hn : 1 < n
    · obtain ⟨s1, s2, s3, s4, s5, s6, s7, s8, s9⟩ := euc_step HE.out (by omega)
      have HS := Lib.hid s1
      have HC := Lib.hid hgc
      have hmm := mm_bd hm1 hm2
      have hnz : ¬ n = 0 := by omega
      clear s1 hgc
      go_wp2
      go_roundw
      case rel =>
        refine ⟨n, l - l / n * n, y, x - l / n * y, rfl, rfl, rfl, rfl, HS.out, fun h => ?_, by have hbel := HB.out; (repeat' (first | (with_reducible exact Below.refl _ _) | (with_reducible refine Below.alloc ?_ ?_ _) | (with_reducible refine Below.setCell ?_ ?_ _) | (with_reducible refine Below.drew ?_) | (with_reducible refine below_drewN ?_ _) | (with_reducible assumption) | (with_reducible refine below_after (by with_reducible assumption) ?_) | go_size))⟩
        exfalso
        have h2 := HS.out.2.2.1
        rw [h] at h2
        simp at h2
        omega
      case measure => simp only [intOf]; omega
    · have HC := Lib.hid hgc
      clear hgc
      go_wp2
      go_ret
      refine ⟨?_, by have hbel := HB.out; (repeat' (first | (with_reducible exact Below.refl _ _) | (with_reducible refine Below.alloc ?_ ?_ _) | (with_reducible refine Below.setCell ?_ ?_ _) | (with_reducible refine Below.drew ?_) | (with_reducible refine below_drewN ?_ _) | (with_reducible assumption) | (with_reducible refine below_after (by with_reducible assumption) ?_) | go_size))⟩
      obtain ⟨_, ⟨t, ht⟩, _⟩ := HE.out
      by_cases h0 : n = 0
      · have hm := HZ.out h0
        refine ⟨y, rfl, y1, y2, 1 - y * a, ?_⟩
        rw [hm]; omega
      · exact ⟨y, rfl, y1, y2, t, by omega⟩
theorem l01Rest_any (n x : Int) (w : World) (hn1 : 1 ≤ n) (hn2 : n ≤ 1000000000000000) (hx1 : -1000000000000000 ≤ x) (hx2 : x ≤ 1000000000000000) :
    Calls Try.prog 135 #[.int .i64 n, .int .i64 x] w fun e w' => e = .returned (.int .i64 (x % n)) ∧ w = w' := by
  have HE := Lib.hid (rest_emod2 (n := n) (x := x) hn1)
  have hn0 : ¬ n = 0 := by omega
  have l : (x.tmod n).natAbs < n.natAbs := tmod_lt x n hn0
  go_enter Try.func135, Try.ntmps135
  go_wp2
  go_ret
  exact ⟨by rw [← HE.out]; rfl, rfl⟩
end Go.Proofs.Ytoenlpkphekbnaa
