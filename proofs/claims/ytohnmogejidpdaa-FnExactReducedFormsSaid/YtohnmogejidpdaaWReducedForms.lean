/-
  The walk of laws.FnExactReducedForms: for all arguments it returns true and leaves memory as it was. No conditions.
-/
import Derived.Test.YtohnmogejidpdaaFoR
import Derived.Test.YtohnmogejidpdaaOwn
namespace Go.Proofs.Ytohnmogejidpdaa
open Go.ChangeShapes Go.WideShapes Go.ChangeAt Go.RowKit
set_option linter.unusedVariables false
set_option linter.unusedSimpArgs false
set_option maxRecDepth 100000

set_option maxHeartbeats 3200000 in
theorem walkFnExactReducedForms_any (k0 c : Int) (n : Nat) (zs : List Int) (w : World) (hx : n ≤ 8388608)
    (hS : ∀ w, Calls Try.prog 45 #[.int .i64 k0] w fun e w' => ∃ v, e = .returned (.tuple #[v, .int .i64 c]) ∧ OwnFo w.heap.size w' v n zs ∧ Below w.heap.size w w')
    (hI : ∀ w, Calls Try.prog 46 #[.int .i64 k0] w fun e w' => ∃ v, e = .returned (.tuple #[v, .int .i64 c]) ∧ OwnFo w.heap.size w' v n zs ∧ Below w.heap.size w w') :
    Calls Try.prog 13 #[.int .i64 k0] w fun e w' => e = .returned (.bool true) ∧ Below w.heap.size w w' := by
  have HS := Lib.hid hS
  have HI := Lib.hid hI
  clear hS hI
  go_enter Try.func13, Try.ntmps13
  have HBW : Hid (Below w.heap.size w w) := Below.refl _ _
  have bt : Below w.heap.size w w := Below.refl _ _
  go_wp2_with fail
  go_at_call 45
  refine (HS.out _).mono ?_
  rintro e w1 ⟨v0, rfl, o0, b0⟩
  obtain ⟨a0, c0, rfl, _⟩ := viewOwnFo o0
  have hb0 : Below w.heap.size w w1 := below_after b0 bt
  have hsz0 := b0.size
  have O0 : Hid (OwnFo w.heap.size w1 (.slice a0 n c0) n zs) := own_up o0 bt.size
  have L0 : Hid (∀ k, (Value.slice a0 n c0).ownBlock = some k → k < w1.heap.size) := fun k hk => (World.ownsRow.lt o0 k hk).2
  have HB1 := Lib.hid hb0
  clear o0 b0 bt hsz0
  have bwu : Below w1.heap.size w1 w1 := Below.refl _ _
  go_wp2_with fail
  go_at_call 46
  refine (HI.out _).mono ?_
  rintro e w2 ⟨v1, rfl, o1, b1⟩
  obtain ⟨a1, c1, rfl, _⟩ := viewOwnFo o1
  have zu := bwu.size
  have bw1 := below_after b1 bwu
  clear b1 bwu
  have HLT1 : Hid (∀ k, (Value.slice a1 n c1).ownBlock = some k → w1.heap.size ≤ k) := fun k hk => by have := (World.ownsRow.lt o1 k hk).1; have := zu; omega
  have O1 := Lib.hid (own_up o1 zu)
  have O0a := Lib.hid (OwnFo.below O0.out bw1)
  have hxs : w.heap.size ≤ w1.heap.size := hb0.size
  have HB2 : Hid (Below w.heap.size w w2) := hb0.trans (bw1.mono hxs)
  clear o1 bw1 zu
  go_wp2_with fail
  go_at_call 40
  refine (eqFormS_same _ _ _ _ _ _ _ O1.out O0a.out (by omega)).mono ?_
  rintro e w3 ⟨rfl, b3⟩
  have O1b := Lib.hid (OwnFo.below O1.out b3)
  have O0b := Lib.hid (OwnFo.below O0a.out b3)
  have HB3 : Hid (Below w.heap.size w w3) := below_after b3 HB2.out
  clear b3 hb0
  go_wp2_with fail
  go_at_call 41
  refine (markFormS_any _ _ _ _ _ _ O1b.out (by omega) (by omega) (by omega)).mono ?_
  rintro e w4 ⟨rfl, o1c, g4⟩
  have O0c : Hid (OwnFo w.heap.size w4 (.slice a0 n c0) n zs) := by
    refine World.ownsRow.kept O0b.out g4 ?_
    cases h0 : (Value.slice a0 n c0).ownBlock with
    | none => exact .inl rfl
    | some k =>
      right
      cases h1 : (Value.slice a1 n c1).ownBlock with
      | none => simp
      | some k' =>
        have a := L0.out k h0
        have b := HLT1.out k' h1
        simp; omega
  have HB4 : Hid (Below w.heap.size w w4) := Below.grown HB3.out g4 HB3.out.size (fun k hk => by have := HLT1.out k hk; omega)
  have O1c := Lib.hid o1c
  clear o1c g4
  go_wp2_with fail
  go_at_call 42
  refine (heldFormS_marks _ _ _ _ _ O1c.out (by omega) (by omega) (by omega)).mono ?_
  rintro e w5 ⟨rfl, rfl⟩
  have hx4 := HB4.out.size
  have bwv : Below w4.heap.size w4 w4 := Below.refl _ _
  go_wp2_with fail
  go_at_call 46
  refine (HI.out _).mono ?_
  rintro e w6 ⟨v2, rfl, o2, b2⟩
  obtain ⟨a2, c2, rfl, _⟩ := viewOwnFo o2
  have zv := bwv.size
  have bw2 := below_after b2 bwv
  clear b2 bwv
  have O2 := Lib.hid o2
  have O0d := Lib.hid (OwnFo.below O0c.out bw2)
  have O1d := Lib.hid (OwnFo.below O1c.out bw2)
  have HB6 : Hid (Below w.heap.size w w6) := HB4.out.trans (bw2.mono hx4)
  clear o2 bw2 zv
  go_wp2_with fail
  go_at_call 40
  refine (eqFormS_same _ _ _ _ _ _ _ O2.out O0d.out (by omega)).mono ?_
  rintro e w7 ⟨rfl, b7⟩
  have O1e := Lib.hid (OwnFo.below O1d.out b7)
  have HB7 : Hid (Below w.heap.size w w7) := below_after b7 HB6.out
  clear b7
  go_wp2_with fail
  go_at_call 42
  refine (heldFormS_marks _ _ _ _ _ O1e.out (by omega) (by omega) (by omega)).mono ?_
  rintro e w8 ⟨rfl, rfl⟩
  go_wp2
  go_ret
  exact ⟨rfl, below_after HB7.out HBW.out⟩

theorem walkFnExactReducedForms (k0 : Int) (wk0 : (Lit.int .i64 k0).wf = true) (w : World) :
    Calls Try.prog 13 #[.int .i64 k0] w fun e w' => e = .returned (.bool true) ∧ Below w.heap.size w w' :=
  walkFnExactReducedForms_any k0 ((rfC k0)) (rfV k0).length (flT (rfV k0)) w (rfV_len k0) (fun w => spec_ReducedForms_any _ w) (fun w => impl_ReducedForms_any _ w)
end Go.Proofs.Ytohnmogejidpdaa
