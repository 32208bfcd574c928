/-
  Contracts of the small functions behind sails: divisions rounded up, next points (own work).
-/
import Derived.Test.YtjiaokcbhpmodaaSl
import Derived.Test.YtjiaokcbhpmodaaFloor
import Derived.Test.YtjiaokcbhpmodaaAlg2
namespace Go.Proofs.Ytjiaokcbhpmodaa
open Go.ChangeShapes Go.WideShapes Go.ChangeAt Go.RowKit
set_option linter.unusedVariables false
set_option linter.unusedSimpArgs false

theorem l01Floor_big (p q : Int) (w : World) (hq : 1 ≤ q) (hq2 : q ≤ 1000000000000000) (hp1 : -1000000000000000 ≤ p) (hp2 : p ≤ 1000000000000000) :
    Calls Try.prog 71 #[.int .i64 p, .int .i64 q] w fun e w' => e = .returned (.int .i64 (p / q)) ∧ w = w' := by
  have hq0 : ¬ q = 0 := by omega
  have hqn : ¬ q < 0 := by omega
  have hqd : decide (q < 0) = false := by simpa using hqn
  by_cases h : p < 0
  · obtain ⟨t1, t2, t3, t4, t5, t6⟩ := tdiv_down hq h
    have hpd : decide (p < 0) = true := by simpa using h
    by_cases hz : p.tmod q = 0
    · have HE := Lib.hid (t5 hz).1
      have hzb : (p.tmod q == 0) = true := by simpa using hz
      clear t5 t6 hz
      go_enter Try.func71, Try.ntmps71
      go_wp2
      go_ret
      exact ⟨by rw [HE.out]; rfl, rfl⟩
    · have HE := Lib.hid (t6 hz).1
      have hzb : (p.tmod q == 0) = false := by simpa using hz
      clear t5 t6
      go_enter Try.func71, Try.ntmps71
      go_wp2
      go_ret
      exact ⟨by rw [HE.out]; rfl, rfl⟩
  · have hp0 : 0 ≤ p := by omega
    have hpd : decide (p < 0) = false := by simpa using h
    obtain ⟨u1, u2, u3, u4⟩ := floor_up hq hp0
    go_enter Try.func71, Try.ntmps71
    go_wp2
    all_goals
      go_ret
      exact ⟨rfl, rfl⟩
theorem floor_range {p q : Int} (hq : 1 ≤ q) (hl : -1000000000000000 ≤ p) (hu : p ≤ 1000000000000000) : -1000000000000001 ≤ p / q ∧ p / q ≤ 1000000000000000 := by
  by_cases h : p < 0
  · obtain ⟨_, _, a, b, c, d⟩ := tdiv_down hq h
    by_cases hz : p.tmod q = 0
    · have := c hz; exact ⟨by omega, by omega⟩
    · have := d hz; exact ⟨by omega, by omega⟩
  · have := floor_up hq (by omega : 0 ≤ p); exact ⟨by omega, by omega⟩
theorem divideUp_any (p q : Int) (w : World) (hq : 1 ≤ q) (hq2 : q ≤ 1000000000000000) (hp1 : -1000000000000000 ≤ p) (hp2 : p ≤ 1000000000000000) :
    Calls Try.prog 65 #[.int .i64 p, .int .i64 q] w fun e w' => e = .returned (.int .i64 (upI p q)) ∧ Below w.heap.size w w' := by
  obtain ⟨f1, f2⟩ := floor_range (p := -p) hq (by omega) (by omega)
  go_enter Try.func65, Try.ntmps65
  go_wp2_with (go_at_call 74; refine (divideDown_any _ _ _ hq hq2 (by omega) (by omega)).mono ?_; rintro e wn ⟨rfl, hb⟩; first | (have h2 := after_call2 hb hcl hfr hlt (by ((repeat' (first | (with_reducible exact Below.refl _ _) | (with_reducible refine Below.alloc ?_ ?_ _) | (with_reducible refine Below.setCell ?_ ?_ _) | (with_reducible refine Below.drew ?_) | (with_reducible refine below_drewN ?_ _) | (with_reducible assumption) | (with_reducible refine below_after (by with_reducible assumption) ?_) | go_size)); done)); obtain ⟨hclx, hfrx, hltx, hsz⟩ := after_call hb; (try simp only [World.size_alloc, World.size_setCell, World.size_drew] at hclx hfrx hltx hsz); (try (have hszl := Nat.lt_of_succ_le hsz)); obtain ⟨hcl, hfr, hlt⟩ := h2) | (obtain ⟨hcl, hfr, hlt, hsz⟩ := after_call hb; (try simp only [World.size_alloc, World.size_setCell, World.size_drew] at hcl hfr hlt hsz)))
  go_ret
  exact ⟨rfl, by (repeat' (first | (with_reducible exact Below.refl _ _) | (with_reducible refine Below.alloc ?_ ?_ _) | (with_reducible refine Below.setCell ?_ ?_ _) | (with_reducible refine Below.drew ?_) | (with_reducible refine below_drewN ?_ _) | (with_reducible assumption) | (with_reducible refine below_after (by with_reducible assumption) ?_) | go_size))⟩
theorem mul_sail {c x : Int} (h1 : -2000000000000 ≤ c) (h2 : c ≤ 2000000000000) (h3 : -2000000 ≤ x) (h4 : x ≤ 2000000) : -4000000000000000000 ≤ c * x ∧ c * x ≤ 4000000000000000000 := by
  have := mul_bd h1 h2 h3 h4
  omega
theorem nextOnSail_any (u v : Int × Int) (c : Int) (w : World) (hu : Sm u) (hv : Sm v) (h1 : -2000000000000 ≤ c) (h2 : c ≤ 2000000000000) :
    Calls Try.prog 66 #[.agg #[.int .i64 u.1, .int .i64 u.2], .agg #[.int .i64 v.1, .int .i64 v.2], .int .i64 c] w fun e w' => e = .returned (.agg #[.int .i64 (c * v.1 - u.1), .int .i64 (c * v.2 - u.2)]) ∧ Below w.heap.size w w' := by
  obtain ⟨x1, y1⟩ := u
  obtain ⟨x2, y2⟩ := v
  unfold Sm at hu hv
  dsimp only at hu hv ⊢
  obtain ⟨a1, a2, a3, a4⟩ := hu
  obtain ⟨b1, b2, b3, b4⟩ := hv
  obtain ⟨p1, p2⟩ := mul_sail h1 h2 b1 b2
  obtain ⟨q1, q2⟩ := mul_sail h1 h2 b3 b4
  have hs20 : w.heap.size < w.heap.size + 1 + 1 := (by omega); have hs30 : w.heap.size < w.heap.size + 1 + 1 + 1 := (by omega); have hs31 : w.heap.size + 1 < w.heap.size + 1 + 1 + 1 := (by omega)
  go_enter Try.func66, Try.ntmps66
  go_wp2
  go_returns
  exact ⟨rfl, by (repeat' (first | (with_reducible exact Below.refl _ _) | (with_reducible refine Below.alloc ?_ ?_ _) | (with_reducible refine Below.setCell ?_ ?_ _) | (with_reducible refine Below.drew ?_) | (with_reducible refine below_drewN ?_ _) | (with_reducible assumption) | (with_reducible refine below_after (by with_reducible assumption) ?_) | go_size))⟩
theorem l01Plus_big (x0 y0 x1 y1 k : Int) (w : World) (h1 : -2000000000000 ≤ k) (h2 : k ≤ 2000000000000) (h3 : Sm (x0, y0)) (h4 : Sm (x1, y1)) :
    Calls Try.prog 72 #[.agg #[.int .i64 x0, .int .i64 y0], .agg #[.int .i64 x1, .int .i64 y1], .int .i64 k] w fun e w' => e = .returned (.agg #[.int .i64 (x0 + k * x1), .int .i64 (y0 + k * y1)]) ∧ Below w.heap.size w w' := by
  unfold Sm at h3 h4
  dsimp only at h3 h4
  obtain ⟨a1, a2, a3, a4⟩ := h3
  obtain ⟨b1, b2, b3, b4⟩ := h4
  obtain ⟨p1, p2⟩ := mul_sail h1 h2 b1 b2
  obtain ⟨q1, q2⟩ := mul_sail h1 h2 b3 b4
  have hs20 : w.heap.size < w.heap.size + 1 + 1 := (by omega); have hs30 : w.heap.size < w.heap.size + 1 + 1 + 1 := (by omega); have hs31 : w.heap.size + 1 < w.heap.size + 1 + 1 + 1 := (by omega)
  go_enter Try.func72, Try.ntmps72
  go_wp2
  go_returns
  exact ⟨rfl, by (repeat' (first | (with_reducible exact Below.refl _ _) | (with_reducible refine Below.alloc ?_ ?_ _) | (with_reducible refine Below.setCell ?_ ?_ _) | (with_reducible refine Below.drew ?_) | (with_reducible refine below_drewN ?_ _) | (with_reducible assumption) | (with_reducible refine below_after (by with_reducible assumption) ?_) | go_size))⟩
end Go.Proofs.Ytjiaokcbhpmodaa
