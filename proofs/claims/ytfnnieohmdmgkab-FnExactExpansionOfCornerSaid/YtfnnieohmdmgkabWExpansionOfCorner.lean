/-
  The walk of laws.FnExactExpansionOfCorner: for all arguments it returns true and leaves memory as it was. No conditions.
-/
import Derived.Test.YtfnnieohmdmgkabEoc
import Derived.Test.YtfnnieohmdmgkabMark
namespace Go.Proofs.Ytfnnieohmdmgkab
open Go.ChangeShapes Go.WideShapes Go.ChangeAt Go.RowKit
set_option linter.unusedVariables false
set_option maxRecDepth 100000
set_option linter.unusedSimpArgs false

set_option maxHeartbeats 1600000 in
theorem walkFnExactExpansionOfCorner (a b c d : Int) (wa : (Lit.int .i64 a).wf = true) (wb : (Lit.int .i64 b).wf = true) (wc : (Lit.int .i64 c).wf = true) (wd : (Lit.int .i64 d).wf = true) (w : World) :
    Calls Try.prog 3 #[.agg #[.int .i64 a, .int .i64 b, .int .i64 c, .int .i64 d]] w fun e w' => e = .returned (.bool true) ∧ Below w.heap.size w w' := by
  clear wa wb wc wd
  have hx := lnC_len a b c d
  have HS : Hid (∀ w, Calls Try.prog 8 #[.agg #[.int .i64 a, .int .i64 b, .int .i64 c, .int .i64 d]] w (RetIC w (lnC a b c d) (crC a b c d))) := fun w => spec_ExpansionOfCorner_any a b c d w
  have HI : Hid (∀ w, Calls Try.prog 10 #[.agg #[.int .i64 a, .int .i64 b, .int .i64 c, .int .i64 d]] w (RetIC w (lnC a b c d) (crC a b c d))) := fun w => impl_ExpansionOfCorner_any a b c d w
  generalize lnC a b c d = xs at *
  generalize crC a b c d = k at *
  go_enter Try.func3, Try.ntmps3
  go_wp2_with fail
  -- what the box of the argument holds, in every world behind
  obtain ⟨wB, hwB⟩ : ∃ wB, wB = w.alloc (.cells #[.int .i64 a, .int .i64 b, .int .i64 c, .int .i64 d] 24) := ⟨_, rfl⟩
  rw [← hwB]
  have HX : Hid (∀ W, Below wB.heap.size wB W → W.cell? ⟨w.heap.size, 0, none⟩ = some (.int .i64 a) ∧ W.cell? ⟨w.heap.size, 1, none⟩ = some (.int .i64 b) ∧ W.cell? ⟨w.heap.size, 2, none⟩ = some (.int .i64 c) ∧ W.cell? ⟨w.heap.size, 3, none⟩ = some (.int .i64 d)) := by
    intro W hW
    have hl : w.heap.size < wB.heap.size := by rw [hwB]; simp
    refine ⟨?_, ?_, ?_, ?_⟩
    all_goals (rw [(bcell hW).1 _ _ hl, hwB]; go_cell)
  have HB0 : Hid (Below w.heap.size w wB) := by show Below w.heap.size w wB; rw [hwB]; (repeat' (first | (with_reducible exact Below.refl _ _) | (with_reducible refine Below.alloc ?_ ?_ _) | (with_reducible refine Below.setCell ?_ ?_ _) | (with_reducible refine Below.drew ?_) | (with_reducible refine below_drewN ?_ _) | (with_reducible assumption) | (with_reducible refine below_after (by with_reducible assumption) ?_) | go_size))
  have hsB : w.heap.size ≤ wB.heap.size := HB0.out.size
  clear hwB
  obtain ⟨y0, y1, y2, y3⟩ := HX.out _ (Below.refl _ _)
  go_wp2_with fail
  go_at_call 9
  refine (toCorner_any _ _ _ _ _).mono ?_
  rintro e w0 ⟨rfl, b0⟩
  clear y0 y1 y2 y3
  go_wp2_with fail
  refine (HS.out _).mono ?_
  rintro e w1 ⟨v0, rfl, o0, b1⟩
  have O0 := Lib.hid o0
  have L0 : Hid (∀ k, v0.ownBlock = some k → w0.heap.size ≤ k) := fun k hk => (World.ownsRow.lt o0 k hk).1
  have HB1 : Hid (Below wB.heap.size wB w1) := below_after b1 b0
  clear o0
  obtain ⟨y0, y1, y2, y3⟩ := HX.out _ HB1.out
  go_wp2_with fail
  go_at_call 9
  refine (toCorner_any _ _ _ _ _).mono ?_
  rintro e w1a ⟨rfl, b1a⟩
  clear y0 y1 y2 y3
  go_wp2_with fail
  refine (HI.out _).mono ?_
  rintro e w2 ⟨v1, rfl, o1, b2⟩
  have O1 := Lib.hid o1
  have O0a := Lib.hid (O0.out.below (below_after b2 b1a))
  have HB2 : Hid (Below wB.heap.size wB w2) := below_after (below_after b2 b1a) HB1.out
  have hlt1 : ∀ k, v1.ownBlock = some k → w1a.heap.size ≤ k := fun k hk => (World.ownsRow.lt o1 k hk).1
  have hlt0 : ∀ k, v0.ownBlock = some k → k < w1.heap.size := fun k hk => (O0.out.lt k hk).2
  have z1 := b1a.size
  have z2 := HB1.out.size
  clear o1
  go_wp2_with fail
  refine (eqInt64S_same _ _ _ _ _ _ O1.out O0a.out (by omega)).mono ?_
  rintro e w3 ⟨rfl, b3⟩
  have O1b := Lib.hid (O1.out.below b3)
  have O0b := Lib.hid (O0a.out.below b3)
  have HB3 : Hid (Below wB.heap.size wB w3) := below_after b3 HB2.out
  go_wp2_with fail
  refine (markInt64S_any _ _ _ _ _ O1b.out (by omega) (by omega) (by omega)).mono ?_
  rintro e w4 ⟨rfl, o1c, g4⟩
  have O0c : Hid (OwnI w0.heap.size w4 v0 xs) := by
    refine World.ownsRow.kept O0b.out g4 ?_
    cases h0 : v0.ownBlock with
    | none => exact .inl rfl
    | some k =>
      right
      cases h1 : v1.ownBlock with
      | none => simp
      | some k' =>
        have a := hlt0 k h0
        have b := hlt1 k' h1
        simp; omega
  have HB4 : Hid (Below wB.heap.size wB w4) := Below.grown HB3.out g4 HB3.out.size (fun k hk => by have := hlt1 k hk; omega)
  have O1c := Lib.hid o1c
  clear o1c g4 hlt1 hlt0
  go_wp2_with fail
  go_at_call 13
  refine (heldInt64S_marks _ _ _ _ _ O1c.out (by omega) (by omega) (by omega)).mono ?_
  rintro e w5 ⟨rfl, rfl⟩
  obtain ⟨y0, y1, y2, y3⟩ := HX.out _ HB4.out
  go_wp2_with fail
  go_at_call 9
  refine (toCorner_any _ _ _ _ _).mono ?_
  rintro e w5a ⟨rfl, b5a⟩
  clear y0 y1 y2 y3
  have O0c2 := Lib.hid (O0c.out.below b5a)
  have O1c2 := Lib.hid (O1c.out.below b5a)
  have HB5 : Hid (Below wB.heap.size wB w5a) := below_after b5a HB4.out
  go_wp2_with fail
  refine (HI.out _).mono ?_
  rintro e w6 ⟨v2, rfl, o2, b6⟩
  have O2 := Lib.hid o2
  have O0d := Lib.hid (O0c2.out.below b6)
  have O1d := Lib.hid (O1c2.out.below b6)
  have HB6 : Hid (Below wB.heap.size wB w6) := below_after b6 HB5.out
  clear o2
  go_wp2_with fail
  refine (eqInt64S_same _ _ _ _ _ _ O2.out O0d.out (by omega)).mono ?_
  rintro e w7 ⟨rfl, b7⟩
  have O1e := Lib.hid (O1d.out.below b7)
  have HB7 : Hid (Below wB.heap.size wB w7) := below_after b7 HB6.out
  go_wp2_with fail
  go_at_call 13
  refine (heldInt64S_marks _ _ _ _ _ O1e.out (by omega) (by omega) (by omega)).mono ?_
  rintro e w8 ⟨rfl, rfl⟩
  go_wp2
  go_ret
  exact ⟨rfl, below_after HB7.out HB0.out⟩
end Go.Proofs.Ytfnnieohmdmgkab
