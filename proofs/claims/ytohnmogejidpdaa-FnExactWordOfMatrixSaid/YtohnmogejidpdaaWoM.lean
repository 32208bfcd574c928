/-
  Words of matrices as plain numbers (own work).
-/
import Derived.Test.YtohnmogejidpdaaBys
import Derived.Test.YtohnmogejidpdaaFoT
import Derived.Test.YtohnmogejidpdaaBk4
import Derived.Deep.Cut
import Derived.Deep.RegionWith
namespace Go.Proofs.Ytohnmogejidpdaa
open Go.ChangeShapes Go.WideShapes Go.ChangeAt Go.RowKit
set_option linter.unusedVariables false
set_option linter.unusedSimpArgs false
set_option maxRecDepth 100000

def isI (a b c d : Int) : Bool := (a == 1) && (b == 0) && (c == 0) && (d == 1)
theorem isI_iff {a b c d : Int} : isI a b c d = true ↔ a = 1 ∧ b = 0 ∧ c = 0 ∧ d = 1 := by
  simp [isI, and_assoc]
/-- A matrix with the determinant 1, no number less than 0, none greater than 1000000. -/
def Wx (a b c d : Int) : Prop := 0 ≤ a ∧ a ≤ 1000000 ∧ 0 ≤ b ∧ b ≤ 1000000 ∧ 0 ≤ c ∧ c ≤ 1000000 ∧ 0 ≤ d ∧ d ≤ 1000000 ∧ a * d - b * c = 1
/-- The letters of a word of at most n letters, from a matrix on. -/
def wo : Nat → Int → Int → Int → Int → Option (List UInt8)
  | 0, a, b, c, d => if isI a b c d = true then some [] else none
  | n + 1, a, b, c, d => if isI a b c d = true then some [] else if c + d < a + b then (wo n (a - c) (b - d) c d).map (82 :: ·) else (wo n a b (c - a) (d - b)).map (76 :: ·)
theorem wo_end {n : Nat} {a b c d : Int} (h : isI a b c d = true) : wo n a b c d = some [] := by
  cases n <;> (unfold wo; rw [if_pos h])
theorem wo_none {a b c d : Int} (h : isI a b c d = false) : wo 0 a b c d = none := by unfold wo; rw [if_neg (by rw [h]; decide)]
theorem wo_R {n : Nat} {a b c d : Int} (h : isI a b c d = false) (k : c + d < a + b) : wo (n + 1) a b c d = (wo n (a - c) (b - d) c d).map (82 :: ·) := by
  conv => lhs; unfold wo
  rw [if_neg (by rw [h]; decide), if_pos k]
theorem wo_L {n : Nat} {a b c d : Int} (h : isI a b c d = false) (k : ¬ c + d < a + b) : wo (n + 1) a b c d = (wo n a b (c - a) (d - b)).map (76 :: ·) := by
  conv => lhs; unfold wo
  rw [if_neg (by rw [h]; decide), if_neg k]
/-- The greater row is not less in both numbers. -/
theorem wx_rows {a b c d : Int} (h : Wx a b c d) (hI : isI a b c d = false) : (c ≤ a ∧ d ≤ b ∧ c + d < a + b) ∨ (a ≤ c ∧ b ≤ d ∧ a + b < c + d ∧ ¬ (c ≤ a ∧ d ≤ b)) := by
  obtain ⟨a0, a1, b0, b1, c0, c1, d0, d1, hd⟩ := h
  have hI' : ¬ (a = 1 ∧ b = 0 ∧ c = 0 ∧ d = 1) := fun h => by rw [isI_iff.2 h] at hI; cases hI
  have ha : 1 ≤ a := by
    apply Int.not_lt.1
    intro h
    have : a = 0 := by omega
    subst this
    have := Int.mul_nonneg b0 c0
    omega
  have hd1 : 1 ≤ d := by
    apply Int.not_lt.1
    intro h
    have : d = 0 := by omega
    subst this
    have := Int.mul_nonneg b0 c0
    omega
  by_cases hac : c < a
  · have hbd : d ≤ b := by
      apply Int.not_lt.1
      intro h
      have m := Int.mul_le_mul (a := b) (b := c) (c := d - 1) (d := a - 1) (by omega) (by omega) c0 (by omega)
      have e : (d - 1) * (a - 1) = a * d - a - d + 1 := by grind
      rw [e] at m
      have h1 : a = 1 := by omega
      have h2 : d = 1 := by omega
      exact hI' ⟨h1, by omega, by omega, h2⟩
    exact .inl ⟨by omega, hbd, by omega⟩
  · have hbd : b ≤ d := by
      apply Int.not_lt.1
      intro h
      have m := Int.mul_le_mul (a := d + 1) (b := a) (c := b) (d := c) (by omega) (by omega) a0 b0
      have e : (d + 1) * a = a * d + a := by grind
      omega
    have hne : ¬ (a = c ∧ b = d) := by
      rintro ⟨rfl, rfl⟩
      have : a * b - b * a = 0 := by grind
      omega
    exact .inr ⟨by omega, hbd, by omega, by omega⟩
theorem wx_R {a b c d : Int} (h : Wx a b c d) (h1 : c ≤ a) (h2 : d ≤ b) : Wx (a - c) (b - d) c d := by
  obtain ⟨a0, a1, b0, b1, c0, c1, d0, d1, hd⟩ := h
  refine ⟨by omega, by omega, by omega, by omega, c0, c1, d0, d1, ?_⟩
  have : (a - c) * d - (b - d) * c = a * d - b * c := by grind
  omega
theorem wx_L {a b c d : Int} (h : Wx a b c d) (h1 : a ≤ c) (h2 : b ≤ d) : Wx a b (c - a) (d - b) := by
  obtain ⟨a0, a1, b0, b1, c0, c1, d0, d1, hd⟩ := h
  refine ⟨a0, a1, b0, b1, by omega, by omega, by omega, by omega, ?_⟩
  have : a * (d - b) - b * (c - a) = a * d - b * c := by grind
  omega
theorem map_prep {R : Option (List UInt8)} (xs : List UInt8) (b : UInt8) (o : Option (List UInt8)) (h : (o.map (b :: ·)).map (xs ++ ·) = R) : o.map ((xs ++ [b]) ++ ·) = R := by
  rw [← h]
  cases o <;> simp
theorem eq_row (d : Nat) (x0 y0 x1 y1 : Int) (w : World) : (Op.equalIn (d + 2) 22 (.agg #[.int .i64 x0, .int .i64 y0]) (.agg #[.int .i64 x1, .int .i64 y1])).run Try.prog w = .ok (x0 == x1 && y0 == y1) w := by
  have hs : ∀ w : World, (sizeOf 2).run Try.prog w = .ok 1 w := fun _ => by kernel_rfl
  have p0 : ∀ (a b : Value) (w : World), (part 2 #[a, b] 0).run Try.prog w = .ok a w := fun _ _ _ => by kernel_rfl
  have p1 : ∀ (a b : Value) (w : World), (part 2 #[a, b] 1).run Try.prog w = .ok b w := fun _ _ _ => by kernel_rfl
  have e1 : ∀ (a b : Int) (w : World), (Op.equalIn (d + 1) 2 (.int .i64 a) (.int .i64 b)).run Try.prog w = .ok (a == b) w := fun a b w => run_equalIn_int w d 2 .i64 .i64 a b Try.underlying2
  rw [show d + 2 = (d + 1) + 1 from rfl]
  rw [Op.equalIn]
  simp only [Sem.run_bind, run_underlying Try.underlying22, Result.andThen_ok, hs, Std.Legacy.Range.forIn_eq_forIn_range', Std.Legacy.Range.size]
  simp only [show List.range' 0 2 = [0, 1] from rfl, List.forIn_cons, List.forIn_nil, Nat.zero_mul, Nat.one_mul, Sem.run_bind, p0, p1, e1, Result.andThen_ok]
  cases h0 : (x0 == x1) <;> cases h1 : (y0 == y1) <;> simp [go_sem, p0, p1, e1, h0, h1]
theorem eq_mx (a b c d e f g h : Int) (w : World) : (Op.equalIn 10000 26 (.agg #[.int .i64 a, .int .i64 b, .int .i64 c, .int .i64 d]) (.agg #[.int .i64 e, .int .i64 f, .int .i64 g, .int .i64 h])).run Try.prog w = .ok ((a == e && b == f) && (c == g && d == h)) w := by
  have hs : ∀ w : World, (sizeOf 22).run Try.prog w = .ok 2 w := fun _ => by kernel_rfl
  have p0 : ∀ (a b c d : Value) (w : World), (part 22 #[a, b, c, d] 0).run Try.prog w = .ok (.agg #[a, b]) w := fun _ _ _ _ _ => by kernel_rfl
  have p1 : ∀ (a b c d : Value) (w : World), (part 22 #[a, b, c, d] 2).run Try.prog w = .ok (.agg #[c, d]) w := fun _ _ _ _ _ => by kernel_rfl
  have e1 := fun (a b c d : Int) (w : World) => eq_row 9997 a b c d w
  rw [show 10000 = 9999 + 1 from rfl]
  rw [Op.equalIn]
  simp only [Sem.run_bind, run_underlying Try.underlying26, Result.andThen_ok, hs, Std.Legacy.Range.forIn_eq_forIn_range', Std.Legacy.Range.size]
  simp only [show List.range' 0 2 = [0, 1] from rfl, List.forIn_cons, List.forIn_nil, Nat.zero_mul, Nat.one_mul, Sem.run_bind, p0, p1, e1, Result.andThen_ok]
  cases h0 : (a == e && b == f) <;> cases h1 : (c == g && d == h) <;> simp [go_sem, p0, p1, e1, h0, h1]
theorem eq_mI (a b c d : Int) (w : World) : (Op.equalIn 10000 26 (.agg #[.int .i64 a, .int .i64 b, .int .i64 c, .int .i64 d]) (.agg #[.int .i64 1, .int .i64 0, .int .i64 0, .int .i64 1])).run Try.prog w = .ok (isI a b c d) w := by
  rw [eq_mx a b c d 1 0 0 1 w]
  unfold isI
  rw [← Bool.and_assoc]
end Go.Proofs.Ytohnmogejidpdaa
