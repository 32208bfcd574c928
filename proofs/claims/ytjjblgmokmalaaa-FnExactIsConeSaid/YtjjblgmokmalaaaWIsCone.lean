/-
  The walk of laws.FnExactIsCone: for all arguments it returns true and leaves memory as it was (own work).
-/
import Derived.Test.YtjjblgmokmalaaaSpW
import Derived.Deep.DeepCutAuto
namespace Go.Proofs.Ytjjblgmokmalaaa
open Go.ChangeShapes Go.WideShapes Go.ChangeAt Go.RowKit
set_option linter.unusedVariables false
set_option linter.unusedSimpArgs false
set_option maxRecDepth 100000

set_option maxHeartbeats 3200000 in
theorem walkFnExactIsCone_any (x0 x1 x2 x3 x4 x5 x6 x7 x8 : Int) (V : Bool)  (w : World) 
    (hS : ∀ w, Calls Try.prog 9 #[.agg #[.int .i64 x0, .int .i64 x1, .int .i64 x2, .int .i64 x3, .int .i64 x4, .int .i64 x5, .int .i64 x6, .int .i64 x7, .int .i64 x8]] w fun e w' => e = .returned (.bool V) ∧ Below w.heap.size w w')
    (hI : ∀ w, Calls Try.prog 11 #[.agg #[.int .i64 x0, .int .i64 x1, .int .i64 x2, .int .i64 x3, .int .i64 x4, .int .i64 x5, .int .i64 x6, .int .i64 x7, .int .i64 x8]] w fun e w' => e = .returned (.bool V) ∧ Below w.heap.size w w') :
    Calls Try.prog 4 #[.agg #[.int .i64 x0, .int .i64 x1, .int .i64 x2, .int .i64 x3, .int .i64 x4, .int .i64 x5, .int .i64 x6, .int .i64 x7, .int .i64 x8]] w fun e w' => e = .returned (.bool true) ∧ Below w.heap.size w w' := by
  have HS := Lib.hid hS
  have HI := Lib.hid hI
  clear hS hI
  obtain ⟨GA0, hG⟩ : ∃ G, w.heap.size = G := ⟨_, rfl⟩
  have HG := Lib.hid hG
  go_enter Try.func4, Try.ntmps4
  go_upto_region 1 with fail
  obtain ⟨w0, hw0⟩ : ∃ w0, w0 = (w.alloc (.cells #[.int .i64 x0, .int .i64 x1, .int .i64 x2, .int .i64 x3, .int .i64 x4, .int .i64 x5, .int .i64 x6, .int .i64 x7, .int .i64 x8] 27)) := ⟨_, rfl⟩
  rw [← hw0]
  have HA0 : Hid (Bk9 w0 GA0 x0 x1 x2 x3 x4 x5 x6 x7 x8) := by
    have h := (bk9_new w x0 x1 x2 x3 x4 x5 x6 x7 x8 27).below (W' := (w.alloc (.cells #[.int .i64 x0, .int .i64 x1, .int .i64 x2, .int .i64 x3, .int .i64 x4, .int .i64 x5, .int .i64 x6, .int .i64 x7, .int .i64 x8] 27))) (by (repeat' (first | (with_reducible exact Below.refl _ _) | (with_reducible refine Below.alloc ?_ ?_ _) | (with_reducible refine Below.setCell ?_ ?_ _) | (with_reducible refine Below.drew ?_) | (with_reducible refine below_drewN ?_ _) | (with_reducible assumption) | (with_reducible refine below_after (by with_reducible assumption) ?_) | go_size)))
    (try simp only [World.size_alloc] at h)
    rw [hG] at h
    rw [hw0]; exact h
  have HB : Hid (Below w.heap.size w w0) := by show Below w.heap.size w w0; rw [hw0]; (repeat' (first | (with_reducible exact Below.refl _ _) | (with_reducible refine Below.alloc ?_ ?_ _) | (with_reducible refine Below.setCell ?_ ?_ _) | (with_reducible refine Below.drew ?_) | (with_reducible refine below_drewN ?_ _) | (with_reducible assumption) | (with_reducible refine below_after (by with_reducible assumption) ?_) | go_size))
  clear hw0
  have le_A0 : w.heap.size ≤ GA0 := by omega
  obtain ⟨⟨qA00, qA01, qA02, qA03, qA04, qA05, qA06, qA07, qA08⟩, ⟨fA00, fA01, fA02, fA03, fA04, fA05, fA06, fA07, fA08⟩, zA0⟩ := HA0.out
  go_wp2_with fail
  go_at_call 10
  refine (toCone_any _ _ _ _ _ _ _ _ _ _).mono ?_
  rintro e w1 ⟨rfl, hb⟩
  clear qA00 fA00 qA01 fA01 qA02 fA02 qA03 fA03 qA04 fA04 qA05 fA05 qA06 fA06 qA07 fA07 qA08 fA08 zA0
  have HA0 := Lib.hid (HA0.out.below hb)
  have HB := Lib.hid (below_after hb HB.out)
  clear hb
  obtain ⟨⟨qA00, qA01, qA02, qA03, qA04, qA05, qA06, qA07, qA08⟩, ⟨fA00, fA01, fA02, fA03, fA04, fA05, fA06, fA07, fA08⟩, zA0⟩ := HA0.out
  go_wp2_with fail
  go_at_call 9
  refine (HS.out _).mono ?_
  rintro e w2 ⟨rfl, hb⟩
  clear qA00 fA00 qA01 fA01 qA02 fA02 qA03 fA03 qA04 fA04 qA05 fA05 qA06 fA06 qA07 fA07 qA08 fA08 zA0
  have HA0 := Lib.hid (HA0.out.below hb)
  have HB := Lib.hid (below_after hb HB.out)
  clear hb
  obtain ⟨⟨qA00, qA01, qA02, qA03, qA04, qA05, qA06, qA07, qA08⟩, ⟨fA00, fA01, fA02, fA03, fA04, fA05, fA06, fA07, fA08⟩, zA0⟩ := HA0.out
  go_wp2_with fail
  go_at_call 10
  refine (toCone_any _ _ _ _ _ _ _ _ _ _).mono ?_
  rintro e w3 ⟨rfl, hb⟩
  clear qA00 fA00 qA01 fA01 qA02 fA02 qA03 fA03 qA04 fA04 qA05 fA05 qA06 fA06 qA07 fA07 qA08 fA08 zA0
  have HA0 := Lib.hid (HA0.out.below hb)
  have HB := Lib.hid (below_after hb HB.out)
  clear hb
  obtain ⟨⟨qA00, qA01, qA02, qA03, qA04, qA05, qA06, qA07, qA08⟩, ⟨fA00, fA01, fA02, fA03, fA04, fA05, fA06, fA07, fA08⟩, zA0⟩ := HA0.out
  go_wp2_with fail
  go_at_call 11
  refine (HI.out _).mono ?_
  rintro e w4 ⟨rfl, hb⟩
  clear qA00 fA00 qA01 fA01 qA02 fA02 qA03 fA03 qA04 fA04 qA05 fA05 qA06 fA06 qA07 fA07 qA08 fA08 zA0
  have HA0 := Lib.hid (HA0.out.below hb)
  have HB := Lib.hid (below_after hb HB.out)
  clear hb
  obtain ⟨⟨qA00, qA01, qA02, qA03, qA04, qA05, qA06, qA07, qA08⟩, ⟨fA00, fA01, fA02, fA03, fA04, fA05, fA06, fA07, fA08⟩, zA0⟩ := HA0.out
  go_wp2_with fail
  go_ret
  have hb := HB.out
  have hb2 := HB.out
  rw [hG] at hb2
  exact ⟨rfl, by (repeat' (first | (with_reducible exact Below.refl _ _) | (with_reducible refine Below.alloc ?_ ?_ _) | (with_reducible refine Below.setCell ?_ ?_ _) | (with_reducible refine Below.drew ?_) | (with_reducible refine below_drewN ?_ _) | (with_reducible assumption) | (with_reducible refine below_after (by with_reducible assumption) ?_) | go_size))⟩
end Go.Proofs.Ytjjblgmokmalaaa
