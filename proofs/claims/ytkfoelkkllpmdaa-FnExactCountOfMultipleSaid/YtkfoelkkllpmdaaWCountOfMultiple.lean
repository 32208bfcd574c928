/-
  The walk of laws.FnExactCountOfMultiple: for all arguments it returns true and leaves memory as it was. No conditions.
-/
import Derived.Test.YtkfoelkkllpmdaaPgN
import Derived.Test.YtkfoelkkllpmdaaPtM
namespace Go.Proofs.Ytkfoelkkllpmdaa
open Go.ChangeShapes Go.WideShapes Go.ChangeAt Go.RowKit
set_option linter.unusedVariables false
set_option maxRecDepth 100000
set_option linter.unusedSimpArgs false
set_option maxRecDepth 100000

set_option maxHeartbeats 1600000 in
theorem walkFnExactCountOfMultiple (a : Option Addr) (n cap : Nat) (ps : List (Int × Int)) (k0 : Int) (wk : (Lit.int .i64 k0).wf = true) (w : World) (hR : RowP w a n ps ∧ n ≤ maxLen) : Calls Try.prog 9 #[.slice a n cap, .int .i64 k0] w fun e w' => e = .returned (.bool true) ∧ Below w.heap.size w w' := by
  have hm : n ≤ 9223372036854775807 := by have := hR.2; unfold maxLen at this; omega
  have hz := fun w => szPointS_any a n cap w hm
  by_cases hbig : (1048576 : Int) < (n : Int)
  · have HZ : Hid (∀ w, Calls Try.prog 17 #[.slice a n cap, .int .i64 1048576] w fun e w' => e = .returned (.int .i64 (-1)) ∧ w = w') := fun w => by have := hz w; rw [if_pos hbig] at this; exact this
    clear hz hR
    go_enter Try.func9, Try.ntmps9
    go_wp2_with (go_at_call 17; refine (HZ.out _).mono ?_; rintro e wn ⟨rfl, rfl⟩)
    go_ret
    exact ⟨rfl, by (repeat' (first | (with_reducible exact Below.refl _ _) | (with_reducible refine Below.alloc ?_ ?_ _) | (with_reducible refine Below.setCell ?_ ?_ _) | (with_reducible refine Below.drew ?_) | (with_reducible refine below_drewN ?_ _) | (with_reducible assumption) | (with_reducible refine below_after (by with_reducible assumption) ?_) | go_size))⟩
  · have hl : n ≤ 1048576 := by omega
    have HZ : Hid (∀ w, Calls Try.prog 17 #[.slice a n cap, .int .i64 1048576] w fun e w' => e = .returned (.int .i64 (1048576 - n)) ∧ w = w') := fun w => by have := hz w; rw [if_neg hbig] at this; exact this
    have HR := Lib.hid hR.1
    have HL := Lib.hid hl
    have hN := hR.1.1
    have HN := Lib.hid hN
    have i1 : ¬ (1048576 : Int) - (n : Int) < 0 := by omega
    have HT : Hid (∀ w1, Below w.heap.size w w1 → Calls Try.prog 19 #[.slice a n cap] w1 (RetP w1 n (flat ps))) := fun w1 hb => toPointS_any a n cap ps w1 (RowP.below HR.out hb) hl
    have HS : Hid (∀ a n cap w, LV w a n ps → Calls Try.prog 34 #[.slice a n cap, .int .i64 k0] w fun e w' => e = .returned (.tuple #[.int .i64 (cmV ps k0), .int .i64 (cmC ps k0)]) ∧ Below w.heap.size w w') := fun a n cap w h => spec_CountOfMultiple_any a n cap ps k0 w h
    have HI : Hid (∀ a n cap w, LV w a n ps → Calls Try.prog 35 #[.slice a n cap, .int .i64 k0] w fun e w' => e = .returned (.tuple #[.int .i64 (cmV ps k0), .int .i64 (cmC ps k0)]) ∧ Below w.heap.size w w') := fun a n cap w h => impl_CountOfMultiple_any a n cap ps k0 w h
    obtain ⟨V, hV⟩ : ∃ V, cmV ps k0 = V := ⟨_, rfl⟩
    rw [hV] at HS HI
    clear hV
    obtain ⟨C, hC⟩ : ∃ V, cmC ps k0 = V := ⟨_, rfl⟩
    rw [hC] at HS HI
    clear hC
    clear hz hR hN
    go_enter Try.func9, Try.ntmps9
    go_wp2_with (go_at_call 17; refine (HZ.out _).mono ?_; rintro e wn ⟨rfl, rfl⟩)
    go_at_call 19
    refine (HT.out w (Below.refl _ _)).mono ?_
    rintro e w1 ⟨v1, rfl, o1, b1⟩
    obtain ⟨a1, c1, rfl, _⟩ := own_viewF o1
    have O1 := Lib.hid (LV.of_own o1 HN.out (by have := HL.out; omega))
    have B1 : Hid (Below w.heap.size w w1) := b1
    clear o1 b1
    go_wp2_with fail
    go_at_call 34
    refine (HS.out _ _ _ _ O1.out).mono ?_
    rintro e w2 ⟨rfl, b2⟩
    have B2 : Hid (Below w.heap.size w w2) := below_after b2 B1.out
    clear b2
    go_wp2_with fail
    go_at_call 19
    refine (HT.out w2 B2.out).mono ?_
    rintro e w3 ⟨v3, rfl, o3, b3⟩
    obtain ⟨a3, c3, rfl, _⟩ := own_viewF o3
    have O3 := Lib.hid o3
    have B3 : Hid (Below w.heap.size w w3) := below_after b3 B2.out
    clear o3 b3
    go_wp2_with fail
    go_at_call 35
    refine (HI.out _ _ _ _ (LV.of_own O3.out HN.out (by have := HL.out; omega))).mono ?_
    rintro e w4 ⟨rfl, b4⟩
    have O4 := Lib.hid (OwnF.below O3.out b4)
    have B4 : Hid (Below w.heap.size w w4) := below_after b4 B3.out
    clear b4
    go_wp2_with fail
    go_at_call 19
    refine (HT.out w4 B4.out).mono ?_
    rintro e w5 ⟨v5, rfl, o5, b5⟩
    obtain ⟨a5, c5, rfl, _⟩ := own_viewF o5
    have O5 := Lib.hid o5
    have O6 := Lib.hid (OwnF.below O4.out b5)
    have B5 : Hid (Below w.heap.size w w5) := below_after b5 B4.out
    clear o5
    go_wp2_with fail
    go_at_call 21
    refine (eqPointS_same _ _ _ _ _ _ _ O6.out O5.out (by have := HL.out; omega)).mono ?_
    rintro e w6 ⟨rfl, b6⟩
    go_wp2
    go_ret
    exact ⟨rfl, below_after b6 B5.out⟩
end Go.Proofs.Ytkfoelkkllpmdaa
