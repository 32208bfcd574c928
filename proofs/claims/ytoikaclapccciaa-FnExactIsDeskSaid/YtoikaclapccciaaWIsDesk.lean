/-
  The walk of laws.FnExactIsDesk: for all arguments it returns true and leaves memory as it was. No conditions (own work).
-/
import Derived.Test.YtoikaclapccciaaDkJ
namespace Go.Proofs.Ytoikaclapccciaa
open Go.ChangeShapes Go.WideShapes Go.ChangeAt Go.RowKit
set_option linter.unusedVariables false
set_option linter.unusedSimpArgs false
set_option maxRecDepth 100000

set_option maxHeartbeats 1600000 in
theorem walkFnExactIsDesk (x0 x1 x2 x3 x4 x5 x6 x7 x8 x9 x10 : Int) (wx0 : (Lit.int .i64 x0).wf = true) (wx1 : (Lit.int .i64 x1).wf = true) (wx2 : (Lit.int .i64 x2).wf = true) (wx3 : (Lit.int .i64 x3).wf = true) (wx4 : (Lit.int .i64 x4).wf = true) (wx5 : (Lit.int .i64 x5).wf = true) (wx6 : (Lit.int .i64 x6).wf = true) (wx7 : (Lit.int .i64 x7).wf = true) (wx8 : (Lit.int .i64 x8).wf = true) (wx9 : (Lit.int .i64 x9).wf = true) (wx10 : (Lit.int .i64 x10).wf = true) (w : World) : Calls Try.prog 4 #[.agg #[.int .i64 x0, .int .i64 x1, .int .i64 x2, .int .i64 x3, .int .i64 x4, .int .i64 x5, .int .i64 x6, .int .i64 x7, .int .i64 x8, .int .i64 x9, .int .i64 x10]] w fun e w' => e = .returned (.bool true) ∧ Below w.heap.size w w' := by
  clear wx0 wx1 wx2 wx3 wx4 wx5 wx6 wx7 wx8 wx9 wx10
  obtain ⟨GD, hG⟩ : ∃ G, w.heap.size = G := ⟨_, rfl⟩
  have HG := Lib.hid hG
  go_enter Try.func4, Try.ntmps4
  go_upto_region 1 with fail
  obtain ⟨w0, hw0⟩ : ∃ w0, w0 = (w.alloc (.cells #[.int .i64 x0, .int .i64 x1, .int .i64 x2, .int .i64 x3, .int .i64 x4, .int .i64 x5, .int .i64 x6, .int .i64 x7, .int .i64 x8, .int .i64 x9, .int .i64 x10] 35)) := ⟨_, rfl⟩
  rw [← hw0]
  have HD : Hid (Bk11 w0 GD x0 x1 x2 x3 x4 x5 x6 x7 x8 x9 x10) := by
    have h := (bk11_new w x0 x1 x2 x3 x4 x5 x6 x7 x8 x9 x10 35).below (W' := (w.alloc (.cells #[.int .i64 x0, .int .i64 x1, .int .i64 x2, .int .i64 x3, .int .i64 x4, .int .i64 x5, .int .i64 x6, .int .i64 x7, .int .i64 x8, .int .i64 x9, .int .i64 x10] 35))) (by (repeat' (first | (with_reducible exact Below.refl _ _) | (with_reducible refine Below.alloc ?_ ?_ _) | (with_reducible refine Below.setCell ?_ ?_ _) | (with_reducible refine Below.drew ?_) | (with_reducible refine below_drewN ?_ _) | (with_reducible assumption) | (with_reducible refine below_after (by with_reducible assumption) ?_) | go_size)))
    (try simp only [World.size_alloc] at h)
    rw [hG] at h
    rw [hw0]; exact h
  have HB : Hid (Below w.heap.size w w0) := by show Below w.heap.size w w0; rw [hw0]; (repeat' (first | (with_reducible exact Below.refl _ _) | (with_reducible refine Below.alloc ?_ ?_ _) | (with_reducible refine Below.setCell ?_ ?_ _) | (with_reducible refine Below.drew ?_) | (with_reducible refine below_drewN ?_ _) | (with_reducible assumption) | (with_reducible refine below_after (by with_reducible assumption) ?_) | go_size))
  clear hw0
  have le_D : w.heap.size ≤ GD := by omega
  obtain ⟨⟨qD0, qD1, qD2, qD3, qD4, qD5, qD6, qD7, qD8, qD9, qD10⟩, ⟨fD0, fD1, fD2, fD3, fD4, fD5, fD6, fD7, fD8, fD9, fD10⟩, zD⟩ := HD.out
  go_wp2_with fail
  go_at_call 9
  refine (toDesk_any _ _ _ _ _ _ _ _ _ _ _ _).mono ?_
  rintro e w1 ⟨rfl, hb⟩
  clear qD0 fD0 qD1 fD1 qD2 fD2 qD3 fD3 qD4 fD4 qD5 fD5 qD6 fD6 qD7 fD7 qD8 fD8 qD9 fD9 qD10 fD10 zD
  have HD := Lib.hid (HD.out.below hb)
  have HB := Lib.hid (below_after hb HB.out)
  clear hb
  obtain ⟨⟨qD0, qD1, qD2, qD3, qD4, qD5, qD6, qD7, qD8, qD9, qD10⟩, ⟨fD0, fD1, fD2, fD3, fD4, fD5, fD6, fD7, fD8, fD9, fD10⟩, zD⟩ := HD.out
  go_wp2_with fail
  go_at_call 8
  refine (spec_IsDesk_any _ _ _ _ _ _ _ _ _ _ _ _).mono ?_
  rintro e w2 ⟨rfl, hb⟩
  clear qD0 fD0 qD1 fD1 qD2 fD2 qD3 fD3 qD4 fD4 qD5 fD5 qD6 fD6 qD7 fD7 qD8 fD8 qD9 fD9 qD10 fD10 zD
  have HD := Lib.hid (HD.out.below hb)
  have HB := Lib.hid (below_after hb HB.out)
  clear hb
  obtain ⟨⟨qD0, qD1, qD2, qD3, qD4, qD5, qD6, qD7, qD8, qD9, qD10⟩, ⟨fD0, fD1, fD2, fD3, fD4, fD5, fD6, fD7, fD8, fD9, fD10⟩, zD⟩ := HD.out
  go_wp2_with fail
  go_at_call 9
  refine (toDesk_any _ _ _ _ _ _ _ _ _ _ _ _).mono ?_
  rintro e w3 ⟨rfl, hb⟩
  clear qD0 fD0 qD1 fD1 qD2 fD2 qD3 fD3 qD4 fD4 qD5 fD5 qD6 fD6 qD7 fD7 qD8 fD8 qD9 fD9 qD10 fD10 zD
  have HD := Lib.hid (HD.out.below hb)
  have HB := Lib.hid (below_after hb HB.out)
  clear hb
  obtain ⟨⟨qD0, qD1, qD2, qD3, qD4, qD5, qD6, qD7, qD8, qD9, qD10⟩, ⟨fD0, fD1, fD2, fD3, fD4, fD5, fD6, fD7, fD8, fD9, fD10⟩, zD⟩ := HD.out
  go_wp2_with fail
  go_at_call 10
  refine (impl_IsDesk_any _ _ _ _ _ _ _ _ _ _ _ _).mono ?_
  rintro e w4 ⟨rfl, hb⟩
  clear qD0 fD0 qD1 fD1 qD2 fD2 qD3 fD3 qD4 fD4 qD5 fD5 qD6 fD6 qD7 fD7 qD8 fD8 qD9 fD9 qD10 fD10 zD
  have HD := Lib.hid (HD.out.below hb)
  have HB := Lib.hid (below_after hb HB.out)
  clear hb
  generalize isDk x0 x1 x2 x3 x4 x5 x6 x7 x8 x9 x10 = r at *
  obtain ⟨⟨qD0, qD1, qD2, qD3, qD4, qD5, qD6, qD7, qD8, qD9, qD10⟩, ⟨fD0, fD1, fD2, fD3, fD4, fD5, fD6, fD7, fD8, fD9, fD10⟩, zD⟩ := HD.out
  go_wp2_with fail
  refine bodyPost_ret (v := .bool true) (by simp (maxDischargeDepth := 8) [results, Try.results4, go_sem, *]) rfl ?_
  have hb := HB.out
  exact ⟨by cases r <;> rfl, hb⟩
end Go.Proofs.Ytoikaclapccciaa
