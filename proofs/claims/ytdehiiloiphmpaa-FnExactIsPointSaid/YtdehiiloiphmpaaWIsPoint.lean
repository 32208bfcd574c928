/-
  The walk of laws.FnExactIsPoint: for all arguments it returns true and leaves memory as it was. No conditions.
-/
import Derived.Test.YtdehiiloiphmpaaPts
namespace Go.Proofs.Ytdehiiloiphmpaa
open Go.ChangeShapes Go.WideShapes Go.ChangeAt Go.RowKit
set_option linter.unusedVariables false
set_option linter.unusedSimpArgs false
theorem spec_IsPoint_any (x y : Int) (w : World) : Calls Try.prog 45 #[.agg #[.int .i64 x, .int .i64 y]] w fun e w' => e = .returned (.bool (isPt (x, y))) ∧ Below w.heap.size w w' := by
  go_enter Try.func45, Try.ntmps45
  go_wp2_with (go_at_call 76; refine (l01Is_any _ _ _).mono ?_; rintro e wn ⟨rfl, hb⟩; obtain ⟨hcl, hfr, hlt, hsz⟩ := after_call hb; try simp only [World.size_alloc, World.size_setCell, World.size_drew] at hcl hfr hlt hsz)
  go_ret
  exact ⟨rfl, by (repeat' (first | (with_reducible exact Below.refl _ _) | (with_reducible refine Below.alloc ?_ ?_ _) | (with_reducible refine Below.setCell ?_ ?_ _) | (with_reducible refine Below.drew ?_) | (with_reducible refine below_after (by with_reducible assumption) ?_) | go_size))⟩

theorem walkFnExactIsPoint (x y : Int) (wx : (Lit.int .i64 x).wf = true) (wy : (Lit.int .i64 y).wf = true) (w : World) :
    Calls Try.prog 4 #[.agg #[.int .i64 x, .int .i64 y]] w fun e w' => e = .returned (.bool true) ∧ Below w.heap.size w w' := by
  clear wx wy
  go_enter Try.func4, Try.ntmps4
  go_wp2_with (first | (go_at_call 46; refine (toPoint_any _ _ _).mono ?_; rintro e wn ⟨rfl, hb⟩; obtain ⟨hcl, hfr, hlt, hsz⟩ := after_call hb; try simp only [World.size_alloc, World.size_setCell, World.size_drew] at hcl hfr hlt hsz) | (go_at_call 45; refine (spec_IsPoint_any _ _ _).mono ?_; rintro e wn ⟨rfl, hb⟩; obtain ⟨hcl, hfr, hlt, hsz⟩ := after_call hb; try simp only [World.size_alloc, World.size_setCell, World.size_drew] at hcl hfr hlt hsz) | (go_at_call 47; refine (isPoint_any _ _ _).mono ?_; rintro e wn ⟨rfl, hb⟩; obtain ⟨hcl, hfr, hlt, hsz⟩ := after_call hb; try simp only [World.size_alloc, World.size_setCell, World.size_drew] at hcl hfr hlt hsz))
  go_ret
  exact ⟨rfl, by (repeat' (first | (with_reducible exact Below.refl _ _) | (with_reducible refine Below.alloc ?_ ?_ _) | (with_reducible refine Below.setCell ?_ ?_ _) | (with_reducible refine Below.drew ?_) | (with_reducible refine below_after (by with_reducible assumption) ?_) | go_size))⟩
end Go.Proofs.Ytdehiiloiphmpaa
