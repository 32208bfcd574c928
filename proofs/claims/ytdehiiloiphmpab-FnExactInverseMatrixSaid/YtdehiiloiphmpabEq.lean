/-
  Contracts of the laws' comparisons of points and matrices, where both are the same (own work).
-/
import Derived.Test.YtdehiiloiphmpabPts
namespace Go.Proofs.Ytdehiiloiphmpab
open Go.ChangeShapes Go.WideShapes Go.ChangeAt Go.RowKit
set_option linter.unusedVariables false
set_option linter.unusedSimpArgs false

theorem after_call2K {G : Prop} {W0 w1 W wn : World} {n : Nat} (hb : Below W.heap.size W wn) (hcl : ∀ b o, b < n → w1.cell? ⟨b, o, none⟩ = W0.cell? ⟨b, o, none⟩) (hfr : ∀ b o, b < n → w1.frozen? ⟨b, o, none⟩ = W0.frozen? ⟨b, o, none⟩) (hlt : ∀ b, b < n → b < w1.heap.size) (hg : Below w1.heap.size w1 W)
    (K : (∀ b o, b < n → wn.cell? ⟨b, o, none⟩ = W0.cell? ⟨b, o, none⟩) → (∀ b o, b < n → wn.frozen? ⟨b, o, none⟩ = W0.frozen? ⟨b, o, none⟩) → (∀ b, b < n → b < wn.heap.size) → G) : G :=
  let h := after_call2 hb hcl hfr hlt hg
  K h.1 h.2.1 h.2.2

theorem eqPoint_same (x y : Int) (w : World) : Calls Try.prog 13 #[.agg #[.int .i64 x, .int .i64 y], .agg #[.int .i64 x, .int .i64 y]] w fun e w' => e = .returned (.bool true) ∧ Below w.heap.size w w' := by
  have hs20 : w.heap.size < w.heap.size + 1 + 1 := (by omega)
  go_enter Try.func13, Try.ntmps13
  go_wp2
  refine wp_loop_rounds 3 ?_
  rw [rounds_succ]
  go_wp2
  go_quiet (fail)
  go_wp2
  rw [rounds_succ]
  go_wp2
  go_quiet (fail)
  go_wp2
  rw [rounds_succ]
  go_wp2
  go_ret
  exact ⟨rfl, by (repeat' (first | (with_reducible exact Below.refl _ _) | (with_reducible refine Below.alloc ?_ ?_ _) | (with_reducible refine Below.setCell ?_ ?_ _) | (with_reducible refine Below.drew ?_) | (with_reducible refine below_drewN ?_ _) | (with_reducible assumption) | (with_reducible refine below_after (by with_reducible assumption) ?_) | go_size))⟩
end Go.Proofs.Ytdehiiloiphmpab
