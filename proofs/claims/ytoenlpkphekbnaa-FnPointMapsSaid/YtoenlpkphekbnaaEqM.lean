/-
  Equality of matrices (own work).
-/
import Derived.Test.YtoenlpkphekbnaaMat
namespace Go.Proofs.Ytoenlpkphekbnaa
open Go.ChangeShapes Go.WideShapes Go.ChangeAt Go.RowKit
set_option linter.unusedVariables false
set_option maxRecDepth 100000
set_option linter.unusedSimpArgs false
set_option maxRecDepth 100000

theorem eq_row (d : Nat) (x0 y0 x1 y1 : Int) (w : World) : (Op.equalIn (d + 2) 24 (.agg #[.int .i64 x0, .int .i64 y0]) (.agg #[.int .i64 x1, .int .i64 y1])).run Try.prog w = .ok (x0 == x1 && y0 == y1) w := by
  have hs : ∀ w : World, (sizeOf 2).run Try.prog w = .ok 1 w := fun _ => by kernel_rfl
  have p0 : ∀ (a b : Value) (w : World), (part 2 #[a, b] 0).run Try.prog w = .ok a w := fun _ _ _ => by kernel_rfl
  have p1 : ∀ (a b : Value) (w : World), (part 2 #[a, b] 1).run Try.prog w = .ok b w := fun _ _ _ => by kernel_rfl
  have e1 : ∀ (a b : Int) (w : World), (Op.equalIn (d + 1) 2 (.int .i64 a) (.int .i64 b)).run Try.prog w = .ok (a == b) w := fun a b w => run_equalIn_int w d 2 .i64 .i64 a b Try.underlying2
  rw [show d + 2 = (d + 1) + 1 from rfl]
  rw [Op.equalIn]
  simp only [Sem.run_bind, run_underlying Try.underlying24, Result.andThen_ok, hs, Std.Legacy.Range.forIn_eq_forIn_range', Std.Legacy.Range.size]
  simp only [show List.range' 0 2 = [0, 1] from rfl, List.forIn_cons, List.forIn_nil, Nat.zero_mul, Nat.one_mul, Sem.run_bind, p0, p1, e1, Result.andThen_ok]
  cases h0 : (x0 == x1) <;> cases h1 : (y0 == y1) <;> simp [go_sem, p0, p1, e1, h0, h1]
theorem eq_mx (a b c d e f g h : Int) (w : World) : (Op.equalIn 10000 26 (.agg #[.int .i64 a, .int .i64 b, .int .i64 c, .int .i64 d]) (.agg #[.int .i64 e, .int .i64 f, .int .i64 g, .int .i64 h])).run Try.prog w = .ok ((a == e && b == f) && (c == g && d == h)) w := by
  have hs : ∀ w : World, (sizeOf 24).run Try.prog w = .ok 2 w := fun _ => by kernel_rfl
  have p0 : ∀ (a b c d : Value) (w : World), (part 24 #[a, b, c, d] 0).run Try.prog w = .ok (.agg #[a, b]) w := fun _ _ _ _ _ => by kernel_rfl
  have p1 : ∀ (a b c d : Value) (w : World), (part 24 #[a, b, c, d] 2).run Try.prog w = .ok (.agg #[c, d]) w := fun _ _ _ _ _ => by kernel_rfl
  have e1 := fun (a b c d : Int) (w : World) => eq_row 9997 a b c d w
  rw [show 10000 = 9999 + 1 from rfl]
  rw [Op.equalIn]
  simp only [Sem.run_bind, run_underlying Try.underlying26, Result.andThen_ok, hs, Std.Legacy.Range.forIn_eq_forIn_range', Std.Legacy.Range.size]
  simp only [show List.range' 0 2 = [0, 1] from rfl, List.forIn_cons, List.forIn_nil, Nat.zero_mul, Nat.one_mul, Sem.run_bind, p0, p1, e1, Result.andThen_ok]
  cases h0 : (a == e && b == f) <;> cases h1 : (c == g && d == h) <;> simp [go_sem, p0, p1, e1, h0, h1]
end Go.Proofs.Ytoenlpkphekbnaa
