/-
  The walk of laws.FnExactRunTriple: for all arguments it returns true and leaves memory as it was. No conditions.
-/
import Derived.Test.YtbgifgfegndlkaaRunLen
import Derived.Test.YtbgifgfegndlkaaOwn
namespace Go.Proofs.Ytbgifgfegndlkaa
open Go.ChangeShapes Go.WideShapes Go.ChangeAt Go.RowKit
set_option linter.unusedVariables false
set_option linter.unusedSimpArgs false
set_option maxRecDepth 100000

set_option maxHeartbeats 3200000 in
theorem walkFnExactRunTriple_any (x0 x1 x2 k0 k1 c : Int) (n : Nat) (zs : List Int) (w : World) (hx : n ≤ 8388608)
    (hS : ∀ w, Calls Try.prog 26 #[.agg #[.int .i64 x0, .int .i64 x1, .int .i64 x2], .int .i64 k0, .int .i64 k1] w fun e w' => ∃ v, e = .returned (.tuple #[v, .int .i64 c]) ∧ OwnTr w.heap.size w' v n zs ∧ Below w.heap.size w w')
    (hI : ∀ w, Calls Try.prog 27 #[.agg #[.int .i64 x0, .int .i64 x1, .int .i64 x2], .int .i64 k0, .int .i64 k1] w fun e w' => ∃ v, e = .returned (.tuple #[v, .int .i64 c]) ∧ OwnTr w.heap.size w' v n zs ∧ Below w.heap.size w w') :
    Calls Try.prog 7 #[.agg #[.int .i64 x0, .int .i64 x1, .int .i64 x2], .int .i64 k0, .int .i64 k1] w fun e w' => e = .returned (.bool true) ∧ Below w.heap.size w w' := by
  have HS := Lib.hid hS
  have HI := Lib.hid hI
  clear hS hI
  go_enter Try.func7, Try.ntmps7
  go_upto_region 1 with fail
  obtain ⟨wB, hwB⟩ : ∃ wB, wB = w.alloc (.cells #[.int .i64 x0, .int .i64 x1, .int .i64 x2] 22) := ⟨_, rfl⟩
  rw [← hwB]
  have HBW : Hid (Below w.heap.size w wB) := by
    show Below w.heap.size w wB
    rw [hwB]; (repeat' (first | (with_reducible exact Below.refl _ _) | (with_reducible refine Below.alloc ?_ ?_ _) | (with_reducible refine Below.setCell ?_ ?_ _) | (with_reducible refine Below.drew ?_) | (with_reducible refine below_drewN ?_ _) | (with_reducible assumption) | (with_reducible refine below_after (by with_reducible assumption) ?_) | go_size))
  have HK : Hid (∀ W', Below wB.heap.size wB W' → W'.cell? ⟨w.heap.size, 0, none⟩ = some (.int .i64 x0) ∧ W'.cell? ⟨w.heap.size, 1, none⟩ = some (.int .i64 x1) ∧ W'.cell? ⟨w.heap.size, 2, none⟩ = some (.int .i64 x2) ∧ w.heap.size < W'.heap.size) := by
    intro W' hB
    have hz := hB.size
    have hbs : wB.heap.size = w.heap.size + 1 := by rw [hwB]; simp
    refine ⟨?_, ?_, ?_, by omega⟩
    all_goals (rw [hB.cell (p := ⟨w.heap.size, _, none⟩) (by rw [hbs]; exact Nat.lt_succ_self _), hwB]; go_cell)
  clear hwB
  obtain ⟨s0, s1, s2, sz⟩ := HK.out wB (Below.refl _ _)
  go_wp2_with fail
  go_at_call 17
  refine (toTriple_any _ _ _ _).mono ?_
  rintro e wt ⟨rfl, btr⟩
  have bt : Below wB.heap.size wB wt := below_after btr (Below.refl _ _)
  clear s0 s1 s2 sz
  clear btr
  go_wp2_with fail
  go_at_call 26
  refine (HS.out _).mono ?_
  rintro e w1 ⟨v0, rfl, o0, b0⟩
  obtain ⟨a0, c0, rfl, _⟩ := viewOwnTr o0
  have hb0 : Below wB.heap.size wB w1 := below_after b0 bt
  have hsz0 := b0.size
  have O0 : Hid (OwnTr wB.heap.size w1 (.slice a0 n c0) n zs) := own_up o0 bt.size
  have L0 : Hid (∀ k, (Value.slice a0 n c0).ownBlock = some k → k < w1.heap.size) := fun k hk => (World.ownsRow.lt o0 k hk).2
  have HB1 := Lib.hid hb0
  clear o0 b0 bt hsz0
  obtain ⟨s0, s1, s2, sz⟩ := HK.out w1 (hb0)
  go_wp2_with fail
  go_at_call 17
  refine (toTriple_any _ _ _ _).mono ?_
  rintro e wu ⟨rfl, bwu⟩
  clear s0 s1 s2 sz
  go_wp2_with fail
  go_at_call 27
  refine (HI.out _).mono ?_
  rintro e w2 ⟨v1, rfl, o1, b1⟩
  obtain ⟨a1, c1, rfl, _⟩ := viewOwnTr o1
  have zu := bwu.size
  have bw1 := below_after b1 bwu
  clear b1 bwu
  have HLT1 : Hid (∀ k, (Value.slice a1 n c1).ownBlock = some k → w1.heap.size ≤ k) := fun k hk => by have := (World.ownsRow.lt o1 k hk).1; have := zu; omega
  have O1 := Lib.hid (own_up o1 zu)
  have O0a := Lib.hid (OwnTr.below O0.out bw1)
  have hxs : wB.heap.size ≤ w1.heap.size := hb0.size
  have HB2 : Hid (Below wB.heap.size wB w2) := hb0.trans (bw1.mono hxs)
  clear o1 bw1 zu
  go_wp2_with fail
  go_at_call 28
  refine (eqTripleS_same _ _ _ _ _ _ _ O1.out O0a.out (by omega)).mono ?_
  rintro e w3 ⟨rfl, b3⟩
  have O1b := Lib.hid (OwnTr.below O1.out b3)
  have O0b := Lib.hid (OwnTr.below O0a.out b3)
  have HB3 : Hid (Below wB.heap.size wB w3) := below_after b3 HB2.out
  clear b3 hb0
  go_wp2_with fail
  go_at_call 29
  refine (markTripleS_any _ _ _ _ _ _ O1b.out (by omega) (by omega) (by omega)).mono ?_
  rintro e w4 ⟨rfl, o1c, g4⟩
  have O0c : Hid (OwnTr wB.heap.size w4 (.slice a0 n c0) n zs) := by
    refine World.ownsRow.kept O0b.out g4 ?_
    cases h0 : (Value.slice a0 n c0).ownBlock with
    | none => exact .inl rfl
    | some k =>
      right
      cases h1 : (Value.slice a1 n c1).ownBlock with
      | none => simp
      | some k' =>
        have a := L0.out k h0
        have b := HLT1.out k' h1
        simp; omega
  have HB4 : Hid (Below wB.heap.size wB w4) := Below.grown HB3.out g4 HB3.out.size (fun k hk => by have := HLT1.out k hk; omega)
  have O1c := Lib.hid o1c
  clear o1c g4
  go_wp2_with fail
  go_at_call 30
  refine (heldTripleS_marks _ _ _ _ _ O1c.out (by omega) (by omega) (by omega)).mono ?_
  rintro e w5 ⟨rfl, rfl⟩
  have hx4 := HB4.out.size
  obtain ⟨s0, s1, s2, sz⟩ := HK.out w4 (HB4.out)
  go_wp2_with fail
  go_at_call 17
  refine (toTriple_any _ _ _ _).mono ?_
  rintro e wv ⟨rfl, bwv⟩
  clear s0 s1 s2 sz
  go_wp2_with fail
  go_at_call 27
  refine (HI.out _).mono ?_
  rintro e w6 ⟨v2, rfl, o2, b2⟩
  obtain ⟨a2, c2, rfl, _⟩ := viewOwnTr o2
  have zv := bwv.size
  have bw2 := below_after b2 bwv
  clear b2 bwv
  have O2 := Lib.hid o2
  have O0d := Lib.hid (OwnTr.below O0c.out bw2)
  have O1d := Lib.hid (OwnTr.below O1c.out bw2)
  have HB6 : Hid (Below wB.heap.size wB w6) := HB4.out.trans (bw2.mono hx4)
  clear o2 bw2 zv
  go_wp2_with fail
  go_at_call 28
  refine (eqTripleS_same _ _ _ _ _ _ _ O2.out O0d.out (by omega)).mono ?_
  rintro e w7 ⟨rfl, b7⟩
  have O1e := Lib.hid (OwnTr.below O1d.out b7)
  have HB7 : Hid (Below wB.heap.size wB w7) := below_after b7 HB6.out
  clear b7
  go_wp2_with fail
  go_at_call 30
  refine (heldTripleS_marks _ _ _ _ _ O1e.out (by omega) (by omega) (by omega)).mono ?_
  rintro e w8 ⟨rfl, rfl⟩
  go_wp2
  go_ret
  exact ⟨rfl, below_after HB7.out HBW.out⟩

theorem walkFnExactRunTriple (x0 x1 x2 k0 k1 : Int) (wx0 : (Lit.int .i64 x0).wf = true) (wx1 : (Lit.int .i64 x1).wf = true) (wx2 : (Lit.int .i64 x2).wf = true) (wk0 : (Lit.int .i64 k0).wf = true) (wk1 : (Lit.int .i64 k1).wf = true) (w : World) :
    Calls Try.prog 7 #[.agg #[.int .i64 x0, .int .i64 x1, .int .i64 x2], .int .i64 k0, .int .i64 k1] w fun e w' => e = .returned (.bool true) ∧ Below w.heap.size w w' :=
  walkFnExactRunTriple_any x0 x1 x2 k0 k1 ((rcd x0 x1 x2 k0 k1)) (runV x0 x1 x2 k0 k1).length (flT (runV x0 x1 x2 k0 k1)) w (runV_len x0 x1 x2 k0 k1) (fun w => spec_RunTriple_any _ _ _ _ _ w) (fun w => impl_RunTriple_any _ _ _ _ _ w)
end Go.Proofs.Ytbgifgfegndlkaa
