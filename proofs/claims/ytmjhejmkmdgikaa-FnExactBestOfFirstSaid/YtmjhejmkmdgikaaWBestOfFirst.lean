/-
  The walk of laws.FnExactBestOfFirst: for all arguments it returns true and leaves memory as it was. No conditions.
-/
import Derived.Test.YtmjhejmkmdgikaaBeR
import Derived.Test.YtmjhejmkmdgikaaPtM
namespace Go.Proofs.Ytmjhejmkmdgikaa
open Go.ChangeShapes Go.WideShapes Go.ChangeAt Go.RowKit
set_option linter.unusedVariables false
set_option maxRecDepth 100000
set_option linter.unusedSimpArgs false
set_option maxRecDepth 100000

/-- The walk behind the two first calls: for whatever list and code both functions return. -/
theorem walk_BestOfFirst (p q n : Int) (ps : List (Int × Int)) (c : Int) (w : World) (hx : ps.length ≤ 1000001)
    (hS : ∀ w, Calls Try.prog 24 #[.int .i64 p, .int .i64 q, .int .i64 n] w (RetPC w ps c)) (hI : ∀ w, Calls Try.prog 25 #[.int .i64 p, .int .i64 q, .int .i64 n] w (RetPC w ps c)) :
    Calls Try.prog 5 #[.int .i64 p, .int .i64 q, .int .i64 n] w fun e w' => e = .returned (.bool true) ∧ Below w.heap.size w w' := by
  have HS := Lib.hid hS
  have HI := Lib.hid hI
  clear hS hI
  go_enter Try.func5, Try.ntmps5
  go_wp2_with fail
  refine (HS.out _).mono ?_
  rintro e w1 ⟨v0, rfl, o0, b1⟩
  have O0 := Lib.hid o0
  clear o0
  go_wp2_with fail
  refine (HI.out _).mono ?_
  rintro e w2 ⟨v1, rfl, o1, b2⟩
  have O1 := Lib.hid o1
  have O0a := Lib.hid (OwnF.below O0.out b2)
  clear o1
  go_wp2_with fail
  refine (eqPointS_same _ _ _ _ _ _ _ O1.out O0a.out (by omega)).mono ?_
  rintro e w3 ⟨rfl, b3⟩
  have O1b := Lib.hid (OwnF.below O1.out b3)
  have O0b := Lib.hid (OwnF.below O0a.out b3)
  go_wp2_with fail
  refine (markPointS_any _ _ _ _ _ _ O1b.out (by omega) (by omega) (by omega)).mono ?_
  rintro e w4 ⟨rfl, o1c, g4⟩
  have hlt1 : ∀ k, v1.ownBlock = some k → w1.heap.size ≤ k := fun k hk => (World.ownsRow.lt O1.out k hk).1
  have O0c : Hid (OwnF w.heap.size w4 v0 ps.length (flat ps)) := by
    refine World.ownsRow.kept O0b.out g4 ?_
    cases h0 : v0.ownBlock with
    | none => exact .inl rfl
    | some k =>
      right
      cases h1 : v1.ownBlock with
      | none => simp
      | some k' =>
        have a := (World.ownsRow.lt O0.out k h0).2
        have b := hlt1 k' h1
        simp; omega
  have b4 : Below w.heap.size w w4 := by
    have s1 := b1.size
    have s2 := b2.size
    have s3 := b3.size
    exact Below.grown (below_after b3 (below_after b2 b1)) g4 (by omega) (fun k hk => by have := hlt1 k hk; omega)
  have O1c := Lib.hid o1c
  clear o1c g4 hlt1 b1 b2 b3
  go_wp2_with fail
  go_at_call 23
  refine (heldPointS_marks _ _ _ _ _ O1c.out (by omega) (by omega) (by omega)).mono ?_
  rintro e w5 ⟨rfl, rfl⟩
  go_wp2_with fail
  refine (HI.out _).mono ?_
  rintro e w6 ⟨v2, rfl, o2, b6⟩
  have O2 := Lib.hid o2
  have O0d := Lib.hid (OwnF.below O0c.out b6)
  have O1d := Lib.hid (OwnF.below O1c.out b6)
  clear o2
  go_wp2_with fail
  refine (eqPointS_same _ _ _ _ _ _ _ O2.out O0d.out (by omega)).mono ?_
  rintro e w7 ⟨rfl, b7⟩
  have O1e := Lib.hid (OwnF.below O1d.out b7)
  go_wp2_with fail
  go_at_call 23
  refine (heldPointS_marks _ _ _ _ _ O1e.out (by omega) (by omega) (by omega)).mono ?_
  rintro e w8 ⟨rfl, rfl⟩
  go_wp2
  go_ret
  exact ⟨rfl, below_after b7 (below_after b6 b4)⟩

theorem walkFnExactBestOfFirst (p q n : Int) (wp : (Lit.int .i64 p).wf = true) (wq : (Lit.int .i64 q).wf = true) (wn : (Lit.int .i64 n).wf = true) (w : World) :
    Calls Try.prog 5 #[.int .i64 p, .int .i64 q, .int .i64 n] w fun e w' => e = .returned (.bool true) ∧ Below w.heap.size w w' :=
  walk_BestOfFirst p q n (bsL false p q n) (bsC p q n) w (by have := bs_len false p q n; omega) (fun w => spec_BestOfFirst_any p q n w) (fun w => impl_BestOfFirst_any p q n w)
end Go.Proofs.Ytmjhejmkmdgikaa
