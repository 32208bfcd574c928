/-
  The two turns of a path (own work).
-/
import Derived.Test.YtohnmogejidpdabDoorNode
import Derived.Test.YtohnmogejidpdabDoorList
import Derived.Deep.DeepCutAuto
namespace Go.Proofs.YtohnmogejidpdabDoor
open Go.ChangeShapes Go.WideShapes Go.ChangeAt Go.RowKit
set_option linter.unusedVariables false
set_option maxRecDepth 100000
set_option linter.unusedSimpArgs false
set_option maxRecDepth 100000

theorem turns_any (w : World) : Calls Tryd.prog 19 #[] w fun e w' => e = .returned (.agg #[.func (.func 41) #[] #[], .func (.func 42) #[] #[]]) ∧ Below w.heap.size w w' := by
  have hsf : ∀ (fn : Fn) (first cap : Array Value) (a : Addr) (m : Mode) (w : World), (store a (.func fn first cap) m).run Tryd.prog w = stored Tryd.prog w a (.func fn first cap) m := fun fn first cap a m w => run_store Tryd.prog w a _ m rfl
  have hs20 : w.heap.size < w.heap.size + 1 + 1 := (by omega)
  go_enter Tryd.func19, Tryd.ntmps19
  go_wp2
  refine bodyPost_ret (v := .agg #[.func (.func 41) #[] #[], .func (.func 42) #[] #[]]) (by simp (maxDischargeDepth := 8) [results, Tryd.results19, go_sem, *]) rfl ?_
  exact ⟨rfl, by (repeat' (first | (with_reducible exact Below.refl _ _) | (with_reducible refine Below.alloc ?_ ?_ _) | (with_reducible refine Below.setCell ?_ ?_ _) | (with_reducible refine Below.drew ?_) | (with_reducible refine below_drewN ?_ _) | (with_reducible assumption) | (with_reducible refine below_after (by with_reducible assumption) ?_) | go_size))⟩
theorem idx_turn0 (w : World) : (Instr.index 42 (.agg #[.func (.func 41) #[] #[], .func (.func 42) #[] #[]]) (.int .i64 0)).run Tryd.prog w = .ok (.func (.func 41) #[] #[]) w := by kernel_rfl
theorem idx_turn1 (w : World) : (Instr.index 42 (.agg #[.func (.func 41) #[] #[], .func (.func 42) #[] #[]]) (.int .i64 1)).run Tryd.prog w = .ok (.func (.func 42) #[] #[]) w := by kernel_rfl
end Go.Proofs.YtohnmogejidpdabDoor
