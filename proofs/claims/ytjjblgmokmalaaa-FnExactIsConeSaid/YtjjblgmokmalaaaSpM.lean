/-
  Spots as plain numbers: bounds, cross products, determinants, lengths; the small functions on spots, in the program and in the model (own work).
-/
import Derived.Test.YtjjblgmokmalaaaGcd
import Derived.Test.YtjjblgmokmalaaaBlk
import Derived.Test.YtjjblgmokmalaaaBkS
import Derived.StillTailTactics
import Derived.Deep.Cut
import Derived.Deep.RegionWith
namespace Go.Proofs.Ytjjblgmokmalaaa
open Go.ChangeShapes Go.WideShapes Go.ChangeAt Go.RowKit
set_option linter.unusedVariables false
set_option linter.unusedSimpArgs false
set_option maxRecDepth 100000

/-- A number in -20..20. -/
def inB (n l h : Int) : Bool := decide (l ≤ n ∧ n ≤ h)
theorem inB_iff {n l h : Int} : inB n l h = true ↔ l ≤ n ∧ n ≤ h := by simp [inB]
theorem inB_not {n l h : Int} : inB n l h = false ↔ ¬ (l ≤ n ∧ n ≤ h) := by simp [inB]
def sp1 (n : Int) : Bool := inB n (-20) 20
theorem sp1_iff {n : Int} : sp1 n = true ↔ -20 ≤ n ∧ n ≤ 20 := inB_iff
/-- A spot. -/
def isSp (a b c : Int) : Bool := sp1 a && sp1 b && sp1 c
/-- Within k. -/
def Wi (k n : Int) : Prop := -k ≤ n ∧ n ≤ k
theorem isSp_parts {a b c : Int} (h : isSp a b c = true) : Wi 20 a ∧ Wi 20 b ∧ Wi 20 c := by
  simp only [isSp, Bool.and_eq_true, sp1_iff] at h
  exact ⟨h.1.1, h.1.2, h.2⟩
theorem Wi.mul {j k a b : Int} (h : Wi j a) (h' : Wi k b) : Wi (j * k) (a * b) := mul_bd h.1 h.2 h'.1 h'.2
theorem Wi.up {j k a : Int} (h : Wi j a) (hk : j ≤ k) : Wi k a := by unfold Wi at *; omega
theorem Wi.add {j k a b : Int} (h : Wi j a) (h' : Wi k b) : Wi (j + k) (a + b) := by unfold Wi at *; omega
theorem Wi.sub {j k a b : Int} (h : Wi j a) (h' : Wi k b) : Wi (j + k) (a - b) := by unfold Wi at *; omega
theorem Wi.neg {j a : Int} (h : Wi j a) : Wi j (-a) := by unfold Wi at *; omega
theorem Wi.tn {k n : Int} (h : Wi k n) (hk : k ≤ 1000000000000000000) : Tn n := by unfold Wi at h; unfold Tn; omega
theorem Wi.wr {k n : Int} (h : Wi k n) (hk : k ≤ 1000000000000000000) : IntKind.i64.wrap n = n := by
  unfold Wi at h; rw [IntKind.wrap_i64]; omega
theorem gcd_tn {a b : Int} (h : Tn a) (h' : Tn b) : Tn (gcdI a b) := by
  unfold Tn at *
  unfold gcdI
  have h0 : (0 : Int) ≤ (Int.gcd a b : Int) := Int.natCast_nonneg _
  rcases Int.decEq a 0 with hz | hz
  · have := Int.gcd_le_natAbs_left (b := b) hz
    omega
  · subst hz
    have : Int.gcd 0 b = b.natAbs := Int.gcd_zero_left b
    omega
def crX (a0 a1 a2 b0 b1 b2 : Int) : Int := a1 * b2 - a2 * b1
def crY (a0 a1 a2 b0 b1 b2 : Int) : Int := a2 * b0 - a0 * b2
def crZ (a0 a1 a2 b0 b1 b2 : Int) : Int := a0 * b1 - a1 * b0
def dotV (a b c x y z : Int) : Int := a * x + b * y + c * z
def detV (a0 a1 a2 b0 b1 b2 c0 c1 c2 : Int) : Int := dotV a0 a1 a2 (crX b0 b1 b2 c0 c1 c2) (crY b0 b1 b2 c0 c1 c2) (crZ b0 b1 b2 c0 c1 c2)
def lenV (a b c : Int) : Int := gcdI (gcdI a b) c
/-- The cross product of numbers within k. -/
theorem cr_wi {k a0 a1 a2 b0 b1 b2 : Int} (h0 : Wi k a0) (h1 : Wi k a1) (h2 : Wi k a2) (g0 : Wi k b0) (g1 : Wi k b1) (g2 : Wi k b2) :
    Wi (k * k + k * k) (crX a0 a1 a2 b0 b1 b2) ∧ Wi (k * k + k * k) (crY a0 a1 a2 b0 b1 b2) ∧ Wi (k * k + k * k) (crZ a0 a1 a2 b0 b1 b2) :=
  ⟨(h1.mul g2).sub (h2.mul g1), (h2.mul g0).sub (h0.mul g2), (h0.mul g1).sub (h1.mul g0)⟩
theorem dot_wi {j k a b c x y z : Int} (h0 : Wi j a) (h1 : Wi j b) (h2 : Wi j c) (g0 : Wi k x) (g1 : Wi k y) (g2 : Wi k z) : Wi (j * k + j * k + j * k) (dotV a b c x y z) :=
  ((h0.mul g0).add (h1.mul g1)).add (h2.mul g2)
theorem det_wi {k a0 a1 a2 b0 b1 b2 c0 c1 c2 : Int} (h0 : Wi k a0) (h1 : Wi k a1) (h2 : Wi k a2) (g0 : Wi k b0) (g1 : Wi k b1) (g2 : Wi k b2) (e0 : Wi k c0) (e1 : Wi k c1) (e2 : Wi k c2) :
    Wi (k * (k * k + k * k) + k * (k * k + k * k) + k * (k * k + k * k)) (detV a0 a1 a2 b0 b1 b2 c0 c1 c2) :=
  have h := cr_wi g0 g1 g2 e0 e1 e2
  dot_wi h0 h1 h2 h.1 h.2.1 h.2.2
theorem spIx0 (p q r : Value) (w : World) : (Instr.index 24 (.agg #[p, q, r]) (.int .i64 0)).run Try.prog w = .ok p w := by kernel_rfl
theorem spIx1 (p q r : Value) (w : World) : (Instr.index 24 (.agg #[p, q, r]) (.int .i64 1)).run Try.prog w = .ok q w := by kernel_rfl
theorem spIx2 (p q r : Value) (w : World) : (Instr.index 24 (.agg #[p, q, r]) (.int .i64 2)).run Try.prog w = .ok r w := by kernel_rfl
theorem toSpot_any (a b c : Int) (w : World) : Calls Try.prog 7 #[.agg #[.int .i64 a, .int .i64 b, .int .i64 c]] w fun e w' => e = .returned (.agg #[.int .i64 a, .int .i64 b, .int .i64 c]) ∧ Below w.heap.size w w' := by
  have hs20 : w.heap.size < w.heap.size + 1 + 1 := (by omega); have hs30 : w.heap.size < w.heap.size + 1 + 1 + 1 := (by omega); have hs31 : w.heap.size + 1 < w.heap.size + 1 + 1 + 1 := (by omega)
  go_enter Try.func7, Try.ntmps7
  go_wp2
  refine wp_loop_rounds 4 ?_
  rw [rounds_succ]
  go_wp2
  rw [rounds_succ]
  go_wp2
  rw [rounds_succ]
  go_wp2
  rw [rounds_succ]
  go_wp2
  refine bodyPost_ret (v := .agg #[.int .i64 a, .int .i64 b, .int .i64 c]) (by simp (maxDischargeDepth := 8) [results, Try.results7, go_sem, *]) rfl ?_
  exact ⟨rfl, by (repeat' (first | (with_reducible exact Below.refl _ _) | (with_reducible refine Below.alloc ?_ ?_ _) | (with_reducible refine Below.setCell ?_ ?_ _) | (with_reducible refine Below.drew ?_) | (with_reducible refine below_drewN ?_ _) | (with_reducible assumption) | (with_reducible refine below_after (by with_reducible assumption) ?_) | go_size))⟩
theorem l01In_any (n l h : Int) (w : World) : Calls Try.prog 22 #[.int .i64 n, .int .i64 l, .int .i64 h] w fun e w' => e = .returned (.bool (inB n l h)) ∧ w = w' := by
  by_cases h1 : l ≤ n
  · by_cases h2 : n ≤ h
    · have hi : inB n l h = true := inB_iff.2 ⟨h1, h2⟩
      rw [hi]; clear hi
      go_enter Try.func22, Try.ntmps22
      go_wp2
      go_ret
      exact ⟨by simp [h2], rfl⟩
    · have hi : inB n l h = false := inB_not.2 (fun h' => h2 h'.2)
      rw [hi]; clear hi
      go_enter Try.func22, Try.ntmps22
      go_wp2
      go_ret
      exact ⟨by simp [h2], rfl⟩
  · have hi : inB n l h = false := inB_not.2 (fun h' => h1 h'.1)
    have hd : decide (l ≤ n) = false := by simpa using h1
    rw [hi]; clear hi
    go_enter Try.func22, Try.ntmps22
    go_wp2
    go_ret
    exact ⟨by simp [hd], rfl⟩
theorem l08Spot_any (a b c : Int) (w : World) : Calls Try.prog 15 #[.agg #[.int .i64 a, .int .i64 b, .int .i64 c]] w fun e w' => e = .returned (.bool (isSp a b c)) ∧ Below w.heap.size w w' := by
  unfold isSp
  have hL : ∀ (n : Int) (k : Bool), sp1 n = k → ∀ w, Calls Try.prog 22 #[.int .i64 n, .int .i64 (-20), .int .i64 20] w fun e w' => e = .returned (.bool k) ∧ w = w' := fun n k h w => by have := l01In_any n (-20) 20 w; rwa [show inB n (-20) 20 = k from h] at this
  cases ha : sp1 a
  · have HA := Lib.hid (hL a false ha)
    clear ha hL
    go_enter Try.func15, Try.ntmps15
    go_wp2
    refine wp_loop_rounds 4 ?_
    rw [rounds_succ]
    go_wp2_with (go_at_call 22; refine (HA.out _).mono ?_; rintro e wn ⟨rfl, rfl⟩)
    go_ret
    exact ⟨rfl, by (repeat' (first | (with_reducible exact Below.refl _ _) | (with_reducible refine Below.alloc ?_ ?_ _) | (with_reducible refine Below.setCell ?_ ?_ _) | (with_reducible refine Below.drew ?_) | (with_reducible refine below_drewN ?_ _) | (with_reducible assumption) | (with_reducible refine below_after (by with_reducible assumption) ?_) | go_size))⟩
  · have HA := Lib.hid (hL a true ha)
    cases hb : sp1 b
    · have HB := Lib.hid (hL b false hb)
      clear ha hb hL
      go_enter Try.func15, Try.ntmps15
      go_wp2
      refine wp_loop_rounds 4 ?_
      rw [rounds_succ]
      go_wp2_with (go_at_call 22; refine (HA.out _).mono ?_; rintro e wn ⟨rfl, rfl⟩)
      rw [rounds_succ]
      go_wp2_with (go_at_call 22; refine (HB.out _).mono ?_; rintro e wn ⟨rfl, rfl⟩)
      go_ret
      exact ⟨rfl, by (repeat' (first | (with_reducible exact Below.refl _ _) | (with_reducible refine Below.alloc ?_ ?_ _) | (with_reducible refine Below.setCell ?_ ?_ _) | (with_reducible refine Below.drew ?_) | (with_reducible refine below_drewN ?_ _) | (with_reducible assumption) | (with_reducible refine below_after (by with_reducible assumption) ?_) | go_size))⟩
    · have HB := Lib.hid (hL b true hb)
      cases hc : sp1 c
      · have HC := Lib.hid (hL c false hc)
        clear ha hb hc hL
        go_enter Try.func15, Try.ntmps15
        go_wp2
        refine wp_loop_rounds 4 ?_
        rw [rounds_succ]
        go_wp2_with (go_at_call 22; refine (HA.out _).mono ?_; rintro e wn ⟨rfl, rfl⟩)
        rw [rounds_succ]
        go_wp2_with (go_at_call 22; refine (HB.out _).mono ?_; rintro e wn ⟨rfl, rfl⟩)
        rw [rounds_succ]
        go_wp2_with (go_at_call 22; refine (HC.out _).mono ?_; rintro e wn ⟨rfl, rfl⟩)
        go_ret
        exact ⟨rfl, by (repeat' (first | (with_reducible exact Below.refl _ _) | (with_reducible refine Below.alloc ?_ ?_ _) | (with_reducible refine Below.setCell ?_ ?_ _) | (with_reducible refine Below.drew ?_) | (with_reducible refine below_drewN ?_ _) | (with_reducible assumption) | (with_reducible refine below_after (by with_reducible assumption) ?_) | go_size))⟩
      · have HC := Lib.hid (hL c true hc)
        clear ha hb hc hL
        go_enter Try.func15, Try.ntmps15
        go_wp2
        refine wp_loop_rounds 4 ?_
        rw [rounds_succ]
        go_wp2_with (go_at_call 22; refine (HA.out _).mono ?_; rintro e wn ⟨rfl, rfl⟩)
        rw [rounds_succ]
        go_wp2_with (go_at_call 22; refine (HB.out _).mono ?_; rintro e wn ⟨rfl, rfl⟩)
        rw [rounds_succ]
        go_wp2_with (go_at_call 22; refine (HC.out _).mono ?_; rintro e wn ⟨rfl, rfl⟩)
        rw [rounds_succ]
        go_wp2
        go_ret
        exact ⟨rfl, by (repeat' (first | (with_reducible exact Below.refl _ _) | (with_reducible refine Below.alloc ?_ ?_ _) | (with_reducible refine Below.setCell ?_ ?_ _) | (with_reducible refine Below.drew ?_) | (with_reducible refine below_drewN ?_ _) | (with_reducible assumption) | (with_reducible refine below_after (by with_reducible assumption) ?_) | go_size))⟩
theorem impl_IsSpot_any (a b c : Int) (w : World) : Calls Try.prog 8 #[.agg #[.int .i64 a, .int .i64 b, .int .i64 c]] w fun e w' => e = .returned (.bool (isSp a b c)) ∧ Below w.heap.size w w' := by
  have w1 : ∀ n : Int, sp1 n = (!(decide (n < -20)) && !(decide (20 < n))) := fun n => by
    unfold sp1 inB
    by_cases h1 : n < -20 <;> by_cases h2 : 20 < n <;> simp [h1, h2] <;> omega
  unfold isSp
  rw [w1 a, w1 b, w1 c]
  clear w1
  have ix0 := spIx0
  have ix1 := spIx1
  have ix2 := spIx2
  cases a0 : decide (a < -20) <;> cases a1 : decide (20 < a)
  case false.false =>
    cases b0 : decide (b < -20) <;> cases b1 : decide (20 < b)
    case false.false =>
      cases e0 : decide (c < -20) <;> cases e1 : decide (20 < c)
      all_goals
        go_enter Try.func8, Try.ntmps8
        go_wp2
        refine wp_loop_rounds 4 ?_
        rw [rounds_succ]
        go_wp2
        rw [rounds_succ]
        go_wp2
        rw [rounds_succ]
        go_wp2
        try (rw [rounds_succ]; go_wp2)
        go_ret
        exact ⟨rfl, by (repeat' (first | (with_reducible exact Below.refl _ _) | (with_reducible refine Below.alloc ?_ ?_ _) | (with_reducible refine Below.setCell ?_ ?_ _) | (with_reducible refine Below.drew ?_) | (with_reducible refine below_drewN ?_ _) | (with_reducible assumption) | (with_reducible refine below_after (by with_reducible assumption) ?_) | go_size))⟩
    all_goals
      go_enter Try.func8, Try.ntmps8
      go_wp2
      refine wp_loop_rounds 4 ?_
      rw [rounds_succ]
      go_wp2
      rw [rounds_succ]
      go_wp2
      go_ret
      exact ⟨rfl, by (repeat' (first | (with_reducible exact Below.refl _ _) | (with_reducible refine Below.alloc ?_ ?_ _) | (with_reducible refine Below.setCell ?_ ?_ _) | (with_reducible refine Below.drew ?_) | (with_reducible refine below_drewN ?_ _) | (with_reducible assumption) | (with_reducible refine below_after (by with_reducible assumption) ?_) | go_size))⟩
  all_goals
    go_enter Try.func8, Try.ntmps8
    go_wp2
    refine wp_loop_rounds 4 ?_
    rw [rounds_succ]
    go_wp2
    go_ret
    exact ⟨rfl, by (repeat' (first | (with_reducible exact Below.refl _ _) | (with_reducible refine Below.alloc ?_ ?_ _) | (with_reducible refine Below.setCell ?_ ?_ _) | (with_reducible refine Below.drew ?_) | (with_reducible refine below_drewN ?_ _) | (with_reducible assumption) | (with_reducible refine below_after (by with_reducible assumption) ?_) | go_size))⟩
end Go.Proofs.Ytjjblgmokmalaaa
