/-
  Contracts of chapter 1's small functions on points (own work): what each returns, and that it leaves all memory that was there as it was.
-/
import Derived.Test.YtibmkmcdggokbaaRows
import Derived.WalkKit
import Derived.ProofKit
import Derived.OpenShut
import Derived.Handy
import Derived.BigQuiet
import Derived.Deep.QuietTactic
import Derived.Deep.RegionHeld3
import Derived.Lib.Hide
namespace Go.Proofs.Ytibmkmcdggokbaa
open Go.ChangeShapes Go.WideShapes Go.ChangeAt Go.RowKit
set_option linter.unusedSimpArgs false
set_option linter.unusedVariables false

def crd (n : Int) : Bool := decide (-1000000 ≤ n) && decide (n ≤ 1000000)
theorem crd_iff {n : Int} : crd n = true ↔ -1000000 ≤ n ∧ n ≤ 1000000 := by simp [crd]
def isPt (p : Int × Int) : Bool := crd p.1 && crd p.2

/-- All memory that was there reads as it did. -/
theorem bcell {W w1 : World} (hb : Below W.heap.size W w1) : (∀ b o, b < W.heap.size → w1.cell? ⟨b, o, none⟩ = W.cell? ⟨b, o, none⟩) ∧ (∀ b o, b < W.heap.size → w1.frozen? ⟨b, o, none⟩ = W.frozen? ⟨b, o, none⟩) :=
  ⟨fun b o h => hb.cell (p := ⟨b, o, none⟩) h, fun b o h => hb.frozen (p := ⟨b, o, none⟩) h⟩

theorem below_after {a w w' : World} (k : Below w.heap.size w w') (h : Below a.heap.size a w) : Below a.heap.size a w' := h.trans (k.mono h.size)

theorem below_drewN {B : Nat} {a w : World} (h : Below B a w) (n : Nat) : Below B a (w.drewN n) := ⟨h.os, h.tape, h.output, h.size, h.block⟩

/-- What a call that leaves old memory alone says of it, in the walk's words. -/
theorem after_call {W w1 : World} (hb : Below W.heap.size W w1) : (∀ b o, b < W.heap.size → w1.cell? ⟨b, o, none⟩ = W.cell? ⟨b, o, none⟩) ∧ (∀ b o, b < W.heap.size → w1.frozen? ⟨b, o, none⟩ = W.frozen? ⟨b, o, none⟩) ∧ (∀ b, b < W.heap.size → b < w1.heap.size) ∧ W.heap.size ≤ w1.heap.size :=
  ⟨(bcell hb).1, (bcell hb).2, fun b h => Nat.lt_of_lt_of_le h hb.size, hb.size⟩

/-- The same, said of the world in which the blocks of the caller's own were last known. -/
theorem after_call2 {W0 w1 W wn : World} {n : Nat} (hb : Below W.heap.size W wn) (hcl : ∀ b o, b < n → w1.cell? ⟨b, o, none⟩ = W0.cell? ⟨b, o, none⟩) (hfr : ∀ b o, b < n → w1.frozen? ⟨b, o, none⟩ = W0.frozen? ⟨b, o, none⟩) (hlt : ∀ b, b < n → b < w1.heap.size) (hg : Below w1.heap.size w1 W) :
    (∀ b o, b < n → wn.cell? ⟨b, o, none⟩ = W0.cell? ⟨b, o, none⟩) ∧ (∀ b o, b < n → wn.frozen? ⟨b, o, none⟩ = W0.frozen? ⟨b, o, none⟩) ∧ (∀ b, b < n → b < wn.heap.size) := by
  refine ⟨fun b o h => ?_, fun b o h => ?_, fun b h => ?_⟩
  · rw [(bcell hb).1 b o (Nat.lt_of_lt_of_le (hlt b h) hg.size), (bcell hg).1 b o (hlt b h), hcl b o h]
  · rw [(bcell hb).2 b o (Nat.lt_of_lt_of_le (hlt b h) hg.size), (bcell hg).2 b o (hlt b h), hfr b o h]
  · exact Nat.lt_of_lt_of_le (hlt b h) (Nat.le_trans hg.size hb.size)

/-- The points' cells, from an address on. -/
def PtCells (w : World) (b off : Nat) (ps : List (Int × Int)) : Prop := ∀ i, i < ps.length → w.cell? ⟨b, off + i * 2, none⟩ = some (.int .i64 (ps.getD i (0, 0)).1) ∧ w.cell? ⟨b, off + i * 2 + 1, none⟩ = some (.int .i64 (ps.getD i (0, 0)).2)

/-- Two points, compared by ==. -/
theorem eq_arr2 (d : Nat) (x0 y0 x1 y1 : Int) (w : World) : (Op.equalIn (d + 2) 31 (.agg #[.int .i64 x0, .int .i64 y0]) (.agg #[.int .i64 x1, .int .i64 y1])).run Try.prog w = .ok (x0 == x1 && y0 == y1) w := by
  have hs : ∀ w : World, (sizeOf 2).run Try.prog w = .ok 1 w := fun _ => by kernel_rfl
  have p0 : ∀ (a b : Value) (w : World), (part 2 #[a, b] 0).run Try.prog w = .ok a w := fun _ _ _ => by kernel_rfl
  have p1 : ∀ (a b : Value) (w : World), (part 2 #[a, b] 1).run Try.prog w = .ok b w := fun _ _ _ => by kernel_rfl
  have e1 : ∀ (a b : Int) (w : World), (Op.equalIn (d + 1) 2 (.int .i64 a) (.int .i64 b)).run Try.prog w = .ok (a == b) w := fun a b w => run_equalIn_int w d 2 .i64 .i64 a b Try.underlying2
  rw [show d + 2 = (d + 1) + 1 from rfl]
  rw [Op.equalIn]
  simp only [Sem.run_bind, run_underlying Try.underlying31, Result.andThen_ok, hs, Std.Legacy.Range.forIn_eq_forIn_range', Std.Legacy.Range.size]
  simp only [show List.range' 0 2 = [0, 1] from rfl, List.forIn_cons, List.forIn_nil, Nat.zero_mul, Nat.one_mul, Sem.run_bind, p0, p1, e1, Result.andThen_ok]
  cases h0 : (x0 == x1) <;> cases h1 : (y0 == y1) <;> simp [go_sem, p0, p1, e1, h0, h1]
theorem eq_pt (x0 y0 x1 y1 : Int) (w : World) : (Op.equalIn 10000 31 (.agg #[.int .i64 x0, .int .i64 y0]) (.agg #[.int .i64 x1, .int .i64 y1])).run Try.prog w = .ok (x0 == x1 && y0 == y1) w := eq_arr2 9998 x0 y0 x1 y1 w

theorem isCoord_any (n : Int) (w : World) : Calls Try.prog 47 #[.int .i64 n] w fun e w' => e = .returned (.bool (crd n)) ∧ w = w' := by
  by_cases h1 : -1000000 ≤ n
  · by_cases h2 : n ≤ 1000000
    · go_enter Try.func47, Try.ntmps47
      go_wp2
      go_ret
      exact ⟨by simp [crd, h1, h2], rfl⟩
    · go_enter Try.func47, Try.ntmps47
      go_wp2
      go_ret
      exact ⟨by simp [crd, h1, h2], rfl⟩
  · have hd : decide (-1000000 ≤ n) = false := by simpa using h1
    go_enter Try.func47, Try.ntmps47
    go_wp2
    go_ret
    exact ⟨by simp [crd, hd], rfl⟩
theorem fits_any (n : Int) (w : World) : Calls Try.prog 41 #[.int .i64 n] w fun e w' => e = .returned (.bool (crd n)) ∧ w = w' := by
  by_cases h1 : -1000000 ≤ n
  · by_cases h2 : n ≤ 1000000
    · go_enter Try.func41, Try.ntmps41
      go_wp2
      go_ret
      exact ⟨by simp [crd, h1, h2], rfl⟩
    · go_enter Try.func41, Try.ntmps41
      go_wp2
      go_ret
      exact ⟨by simp [crd, h1, h2], rfl⟩
  · have hd : decide (-1000000 ≤ n) = false := by simpa using h1
    go_enter Try.func41, Try.ntmps41
    go_wp2
    go_ret
    exact ⟨by simp [crd, hd], rfl⟩
end Go.Proofs.Ytibmkmcdggokbaa
