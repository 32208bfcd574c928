/-
  Spots, compared by == (own work).
-/
import Derived.Test.YtjjblgmokmalaaaSpM
namespace Go.Proofs.Ytjjblgmokmalaaa
open Go.ChangeShapes Go.WideShapes Go.ChangeAt Go.RowKit
set_option linter.unusedVariables false
set_option linter.unusedSimpArgs false
set_option maxRecDepth 100000

/-- Three numbers, compared by ==. -/
theorem eq_arr3 (d : Nat) (a b c x y z : Int) (w : World) : (Op.equalIn (d + 2) 24 (.agg #[.int .i64 a, .int .i64 b, .int .i64 c]) (.agg #[.int .i64 x, .int .i64 y, .int .i64 z])).run Try.prog w = .ok ((a == x && b == y) && c == z) w := by
  have hs : ∀ w : World, (sizeOf 2).run Try.prog w = .ok 1 w := fun _ => by kernel_rfl
  have p0 : ∀ (a b c : Value) (w : World), (part 2 #[a, b, c] 0).run Try.prog w = .ok a w := fun _ _ _ _ => by kernel_rfl
  have p1 : ∀ (a b c : Value) (w : World), (part 2 #[a, b, c] 1).run Try.prog w = .ok b w := fun _ _ _ _ => by kernel_rfl
  have p2 : ∀ (a b c : Value) (w : World), (part 2 #[a, b, c] 2).run Try.prog w = .ok c w := fun _ _ _ _ => by kernel_rfl
  have e1 : ∀ (a b : Int) (w : World), (Op.equalIn (d + 1) 2 (.int .i64 a) (.int .i64 b)).run Try.prog w = .ok (a == b) w := fun a b w => run_equalIn_int w d 2 .i64 .i64 a b Try.underlying2
  rw [show d + 2 = (d + 1) + 1 from rfl]
  rw [Op.equalIn]
  simp only [Sem.run_bind, run_underlying Try.underlying24, Result.andThen_ok, hs, Std.Legacy.Range.forIn_eq_forIn_range', Std.Legacy.Range.size]
  simp only [show List.range' 0 3 = [0, 1, 2] from rfl, List.forIn_cons, List.forIn_nil, Nat.zero_mul, Nat.one_mul, Sem.run_bind, p0, p1, p2, e1, Result.andThen_ok]
  cases h0 : (a == x) <;> cases h1 : (b == y) <;> cases h2 : (c == z) <;> simp [go_sem, p0, p1, p2, e1, h0, h1, h2]
theorem eq_sp (a b c x y z : Int) (w : World) : (Op.equalIn 10000 24 (.agg #[.int .i64 a, .int .i64 b, .int .i64 c]) (.agg #[.int .i64 x, .int .i64 y, .int .i64 z])).run Try.prog w = .ok ((a == x && b == y) && c == z) w := eq_arr3 9998 a b c x y z w
end Go.Proofs.Ytjjblgmokmalaaa
