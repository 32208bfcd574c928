/-
  The walk of laws.FnExactAreTurns: for all strings it returns true and leaves memory as it was, in a world in which the cell of internal/bytealg.MaxLen holds a number (own work).
-/
import Derived.Test.YtohnmogejidpdaaDoorWdA
namespace Go.Proofs.YtohnmogejidpdaaDoor
open Go.ChangeShapes Go.WideShapes Go.ChangeAt Go.RowKit
set_option linter.unusedVariables false
set_option linter.unusedSimpArgs false
set_option maxRecDepth 100000

set_option maxHeartbeats 1600000 in
theorem walkFnExactAreTurns_at (s0 s1 : ByteArray) (m : Int) (w : World) (hg : 0 < w.heap.size) (hm : w.cell? ⟨0, 0, none⟩ = some (.int .i64 m)) :
    Calls Tryd.prog 5 #[.string s0, .string s1] w fun e w' => e = .returned (.bool true) ∧ Below w.heap.size w w' := by
  obtain ⟨u, rfl⟩ : ∃ l : List UInt8, s0 = ⟨l.toArray⟩ := ⟨s0.data.toList, by simp⟩
  obtain ⟨v, rfl⟩ : ∃ l : List UInt8, s1 = ⟨l.toArray⟩ := ⟨s1.data.toList, by simp⟩
  have hsu := bytes_size u
  have hsv := bytes_size v
  by_cases h0 : 1048576 < u.length
  · have hg : decide (1048576 < (u.length : Int)) = true := by simp; omega
    go_enter Tryd.func5, Tryd.ntmps5
    go_wp2
    go_ret
    exact ⟨rfl, by (repeat' (first | (with_reducible exact Below.refl _ _) | (with_reducible refine Below.alloc ?_ ?_ _) | (with_reducible refine Below.setCell ?_ ?_ _) | (with_reducible refine Below.drew ?_) | (with_reducible refine below_drewN ?_ _) | (with_reducible assumption) | (with_reducible refine below_after (by with_reducible assumption) ?_) | go_size))⟩
  · have hg0 : decide (1048576 < (u.length : Int)) = false := by simp; omega
    by_cases h1 : 1048576 < v.length
    · have hg1 : decide (1048576 < (v.length : Int)) = true := by simp; omega
      go_enter Tryd.func5, Tryd.ntmps5
      go_wp2
      go_ret
      exact ⟨rfl, by (repeat' (first | (with_reducible exact Below.refl _ _) | (with_reducible refine Below.alloc ?_ ?_ _) | (with_reducible refine Below.setCell ?_ ?_ _) | (with_reducible refine Below.drew ?_) | (with_reducible refine below_drewN ?_ _) | (with_reducible assumption) | (with_reducible refine below_after (by with_reducible assumption) ?_) | go_size))⟩
    · have hg1 : decide (1048576 < (v.length : Int)) = false := by simp; omega
      have HS := Lib.hid (fun w => spec_AreTurns_any u v w (by omega) (by omega))
      have HI := Lib.hid (fun w hg hm => impl_AreTurns_any u v m w (by omega) (by omega) hg hm)
      have HM := Lib.hid (And.intro hg hm)
      generalize tV u v = X at *
      generalize tC u v = C at *
      clear hg hm
      go_enter Tryd.func5, Tryd.ntmps5
      go_wp2_with fail
      go_at_call 14
      refine (HS.out _).mono ?_
      rintro e w1 ⟨rfl, hb⟩
      go_wp2_with fail
      go_at_call 15
      refine (HI.out _ (Nat.lt_of_lt_of_le HM.out.1 hb.size) ((hb.cell (p := ⟨0, 0, none⟩) HM.out.1).trans HM.out.2)).mono ?_
      rintro e w2 ⟨rfl, hb2⟩
      go_wp2_with fail
      go_ret
      exact ⟨rfl, below_after hb2 hb⟩
end Go.Proofs.YtohnmogejidpdaaDoor
