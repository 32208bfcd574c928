/-
  The walk of laws.FnExactOrderPolygon: for all arguments it returns true and leaves memory as it was. No conditions.
-/
import Derived.Test.YtkfoelkkllpmdaaPgOr
import Derived.Test.YtkfoelkkllpmdaaPtM
namespace Go.Proofs.Ytkfoelkkllpmdaa
open Go.ChangeShapes Go.WideShapes Go.ChangeAt Go.RowKit
set_option linter.unusedVariables false
set_option maxRecDepth 100000
set_option linter.unusedSimpArgs false
set_option maxRecDepth 100000

theorem own_capF {B : Nat} {w : World} {a : Option Addr} {n cap : Nat} {zs : List Int} (h : OwnF B w (.slice a n cap) n zs) : n ≤ cap ∧ cap ≤ maxLen := by
  rcases h.2 with ⟨e, rfl⟩ | ⟨g, c, cur, e, _, _, hnc, hcm, _⟩
  · simp only [Value.slice.injEq] at e
    exact ⟨by omega, by rw [e.2.2]; exact Nat.zero_le _⟩
  · simp only [Value.slice.injEq] at e
    rw [e.2.2]; exact ⟨hnc, hcm⟩
set_option maxHeartbeats 6400000 in
theorem walkFnExactOrderPolygon (a : Option Addr) (n cap : Nat) (ps : List (Int × Int)) (w : World) (hR : RowP w a n ps ∧ n ≤ maxLen) : Calls Try.prog 5 #[.slice a n cap] w fun e w' => e = .returned (.bool true) ∧ Below w.heap.size w w' := by
  have hm : n ≤ 9223372036854775807 := by have := hR.2; unfold maxLen at this; omega
  have hz := fun w => szPointS_any a n cap w hm
  by_cases hbig : (1048576 : Int) < (n : Int)
  · have HZ : Hid (∀ w, Calls Try.prog 17 #[.slice a n cap, .int .i64 1048576] w fun e w' => e = .returned (.int .i64 (-1)) ∧ w = w') := fun w => by have := hz w; rw [if_pos hbig] at this; exact this
    clear hz hR
    go_enter Try.func5, Try.ntmps5
    go_wp2_with (go_at_call 17; refine (HZ.out _).mono ?_; rintro e wn ⟨rfl, rfl⟩)
    go_ret
    exact ⟨rfl, by (repeat' (first | (with_reducible exact Below.refl _ _) | (with_reducible refine Below.alloc ?_ ?_ _) | (with_reducible refine Below.setCell ?_ ?_ _) | (with_reducible refine Below.drew ?_) | (with_reducible refine below_drewN ?_ _) | (with_reducible assumption) | (with_reducible refine below_after (by with_reducible assumption) ?_) | go_size))⟩
  · have hl : n ≤ 1048576 := by omega
    have HZ : Hid (∀ w, Calls Try.prog 17 #[.slice a n cap, .int .i64 1048576] w fun e w' => e = .returned (.int .i64 (1048576 - n)) ∧ w = w') := fun w => by have := hz w; rw [if_neg hbig] at this; exact this
    have HR := Lib.hid hR.1
    have HL := Lib.hid hl
    have hN := hR.1.1
    have HN := Lib.hid hN
    have i1 : ¬ (1048576 : Int) - (n : Int) < 0 := by omega
    have HT : Hid (∀ w1, Below w.heap.size w w1 → Calls Try.prog 19 #[.slice a n cap] w1 (RetP w1 n (flat ps))) := fun w1 hb => toPointS_any a n cap ps w1 (RowP.below HR.out hb) hl
    have HX : Hid ((orL ps).length ≤ 4194304) := by show (orL ps).length ≤ 4194304; have := orL_len ps; omega
    have HS : Hid (∀ a n cap w, LV w a n ps → n ≤ cap → cap ≤ maxLen → Calls Try.prog 26 #[.slice a n cap] w fun e w' => ∃ v, e = .returned (.tuple #[v, .int .i64 (cdP ps)]) ∧ OwnF w.heap.size w' v (orL ps).length (flat (orL ps)) ∧ Below w.heap.size w w') := fun a n cap w h k l => spec_OrderPolygon_any a n cap ps w h k l
    have HI : Hid (∀ a n cap w, LV w a n ps → n ≤ cap → cap ≤ maxLen → Calls Try.prog 27 #[.slice a n cap] w fun e w' => ∃ v, e = .returned (.tuple #[v, .int .i64 (cdP ps)]) ∧ OwnF w.heap.size w' v (orL ps).length (flat (orL ps)) ∧ Below w.heap.size w w') := fun a n cap w h k l => impl_OrderPolygon_any a n cap ps w h k l
    obtain ⟨C, hC⟩ : ∃ V, cdP ps = V := ⟨_, rfl⟩
    obtain ⟨zs, hzs⟩ : ∃ V, flat (orL ps) = V := ⟨_, rfl⟩
    obtain ⟨N, hNN⟩ : ∃ V, (orL ps).length = V := ⟨_, rfl⟩
    rw [hC, hzs, hNN] at HS HI
    rw [hNN] at HX
    clear hC hzs hNN hz hR hN
    go_enter Try.func5, Try.ntmps5
    have HB : Hid (Below w.heap.size w w) := Below.refl _ _
    go_wp2_with (go_at_call 17; refine (HZ.out _).mono ?_; rintro e wn ⟨rfl, rfl⟩)
    go_at_call 19
    refine (HT.out _ HB.out).mono ?_
    rintro e w1 ⟨v, rfl, o, b⟩
    obtain ⟨aO1, cO1, rfl, _⟩ := own_viewF o
    have O1 := Lib.hid o
    have LO1 : Hid (∀ k, (Value.slice aO1 n cO1).ownBlock = some k → w.heap.size ≤ k ∧ k < w1.heap.size) := World.ownsRow.lt o
    have HB := Lib.hid (below_after b HB.out)
    have zw1 := b.size
    clear o b
    go_wp2_with fail
    go_at_call 26
    refine (HS.out _ _ _ _ (LV.of_own O1.out HN.out (by have := HL.out; omega)) (own_capF O1.out).1 (own_capF O1.out).2).mono ?_
    rintro e w2 ⟨v, rfl, o, b⟩
    obtain ⟨aV0, cV0, rfl, _⟩ := own_viewF o
    have O1 := Lib.hid (OwnF.below O1.out b)
    have V0 := Lib.hid o
    have LV0 : Hid (∀ k, (Value.slice aV0 N cV0).ownBlock = some k → w1.heap.size ≤ k ∧ k < w2.heap.size) := World.ownsRow.lt o
    have HB := Lib.hid (below_after b HB.out)
    have zw2 := b.size
    clear o b
    clear O1 LO1
    go_wp2_with fail
    go_at_call 19
    refine (HT.out _ HB.out).mono ?_
    rintro e w3 ⟨v, rfl, o, b⟩
    obtain ⟨aO3, cO3, rfl, _⟩ := own_viewF o
    have V0 := Lib.hid (OwnF.below V0.out b)
    have O3 := Lib.hid o
    have LO3 : Hid (∀ k, (Value.slice aO3 n cO3).ownBlock = some k → w2.heap.size ≤ k ∧ k < w3.heap.size) := World.ownsRow.lt o
    have HB := Lib.hid (below_after b HB.out)
    have zw3 := b.size
    clear o b
    go_wp2_with fail
    go_at_call 27
    refine (HI.out _ _ _ _ (LV.of_own O3.out HN.out (by have := HL.out; omega)) (own_capF O3.out).1 (own_capF O3.out).2).mono ?_
    rintro e w4 ⟨v, rfl, o, b⟩
    obtain ⟨aV1, cV1, rfl, _⟩ := own_viewF o
    have V0 := Lib.hid (OwnF.below V0.out b)
    have O3 := Lib.hid (OwnF.below O3.out b)
    have V1 := Lib.hid o
    have LV1 : Hid (∀ k, (Value.slice aV1 N cV1).ownBlock = some k → w3.heap.size ≤ k ∧ k < w4.heap.size) := World.ownsRow.lt o
    have HB := Lib.hid (below_after b HB.out)
    have zw4 := b.size
    clear o b
    go_wp2_with fail
    go_at_call 21
    refine (eqPointS_same _ _ _ _ _ _ _ V1.out V0.out (by have := HX.out; omega)).mono ?_
    rintro e w5 ⟨rfl, b⟩
    have V0 := Lib.hid (OwnF.below V0.out b)
    have O3 := Lib.hid (OwnF.below O3.out b)
    have V1 := Lib.hid (OwnF.below V1.out b)
    have HB := Lib.hid (below_after b HB.out)
    have zw5 := b.size
    clear b
    go_wp2_with fail
    go_at_call 19
    refine (HT.out _ HB.out).mono ?_
    rintro e w6 ⟨v, rfl, o, b⟩
    obtain ⟨aO6, cO6, rfl, _⟩ := own_viewF o
    have V0 := Lib.hid (OwnF.below V0.out b)
    have O3 := Lib.hid (OwnF.below O3.out b)
    have V1 := Lib.hid (OwnF.below V1.out b)
    have O6 := Lib.hid o
    have LO6 : Hid (∀ k, (Value.slice aO6 n cO6).ownBlock = some k → w5.heap.size ≤ k ∧ k < w6.heap.size) := World.ownsRow.lt o
    have HB := Lib.hid (below_after b HB.out)
    have zw6 := b.size
    clear o b
    go_wp2_with fail
    go_at_call 21
    refine (eqPointS_same _ _ _ _ _ _ _ O3.out O6.out (by have := HL.out; omega)).mono ?_
    rintro e w7 ⟨rfl, b⟩
    have V0 := Lib.hid (OwnF.below V0.out b)
    have O3 := Lib.hid (OwnF.below O3.out b)
    have V1 := Lib.hid (OwnF.below V1.out b)
    have O6 := Lib.hid (OwnF.below O6.out b)
    have HB := Lib.hid (below_after b HB.out)
    have zw7 := b.size
    clear b
    clear O6 LO6
    go_wp2_with fail
    go_at_call 24
    refine (markPointS_any _ _ _ _ _ _ O3.out (by omega) (by omega) (by have := HL.out; omega)).mono ?_
    rintro e w8 ⟨rfl, om, gm⟩
    have V0 := Lib.hid (World.ownsRow.kept V0.out gm (by
      cases h0 : (Value.slice aV0 N cV0).ownBlock with
      | none => exact .inl rfl
      | some k =>
        right
        cases h1 : (Value.slice aO3 n cO3).ownBlock with
        | none => simp
        | some k' =>
          have p := LV0.out k h0
          have q := LO3.out k' h1
          simp; omega) : OwnF _ _ _ _ _)
    have V1 := Lib.hid (World.ownsRow.kept V1.out gm (by
      cases h0 : (Value.slice aV1 N cV1).ownBlock with
      | none => exact .inl rfl
      | some k =>
        right
        cases h1 : (Value.slice aO3 n cO3).ownBlock with
        | none => simp
        | some k' =>
          have p := LV1.out k h0
          have q := LO3.out k' h1
          simp; omega) : OwnF _ _ _ _ _)
    have zz := HB.out.size
    have HB := Lib.hid (Below.grown HB.out gm HB.out.size (fun k hk => by have := LO3.out k hk; omega))
    have zw8 := gm.size
    have O3 := Lib.hid om
    clear om gm zz
    clear O3 LO3
    go_wp2_with fail
    go_at_call 21
    refine (eqPointS_same _ _ _ _ _ _ _ V1.out V0.out (by have := HX.out; omega)).mono ?_
    rintro e w9 ⟨rfl, b⟩
    have V0 := Lib.hid (OwnF.below V0.out b)
    have V1 := Lib.hid (OwnF.below V1.out b)
    have HB := Lib.hid (below_after b HB.out)
    have zw9 := b.size
    clear b
    go_wp2_with fail
    go_at_call 24
    refine (markPointS_any _ _ _ _ _ _ V1.out (by omega) (by omega) (by have := HX.out; omega)).mono ?_
    rintro e w10 ⟨rfl, om, gm⟩
    have V0 := Lib.hid (World.ownsRow.kept V0.out gm (by
      cases h0 : (Value.slice aV0 N cV0).ownBlock with
      | none => exact .inl rfl
      | some k =>
        right
        cases h1 : (Value.slice aV1 N cV1).ownBlock with
        | none => simp
        | some k' =>
          have p := LV0.out k h0
          have q := LV1.out k' h1
          simp; omega) : OwnF _ _ _ _ _)
    have zz := HB.out.size
    have HB := Lib.hid (Below.grown HB.out gm HB.out.size (fun k hk => by have := LV1.out k hk; omega))
    have zw10 := gm.size
    have V1 := Lib.hid om
    clear om gm zz
    go_wp2_with fail
    go_at_call 25
    refine (heldPointS_marks _ _ _ _ _ V1.out (by omega) (by omega) (by have := HX.out; omega)).mono ?_
    rintro e w11 ⟨rfl, rfl⟩
    go_wp2_with fail
    go_at_call 19
    refine (HT.out _ HB.out).mono ?_
    rintro e w11 ⟨v, rfl, o, b⟩
    obtain ⟨aO8, cO8, rfl, _⟩ := own_viewF o
    have V0 := Lib.hid (OwnF.below V0.out b)
    have V1 := Lib.hid (OwnF.below V1.out b)
    have O8 := Lib.hid o
    have LO8 : Hid (∀ k, (Value.slice aO8 n cO8).ownBlock = some k → w10.heap.size ≤ k ∧ k < w11.heap.size) := World.ownsRow.lt o
    have HB := Lib.hid (below_after b HB.out)
    have zw11 := b.size
    clear o b
    go_wp2_with fail
    go_at_call 27
    refine (HI.out _ _ _ _ (LV.of_own O8.out HN.out (by have := HL.out; omega)) (own_capF O8.out).1 (own_capF O8.out).2).mono ?_
    rintro e w12 ⟨v, rfl, o, b⟩
    obtain ⟨aV2, cV2, rfl, _⟩ := own_viewF o
    have V0 := Lib.hid (OwnF.below V0.out b)
    have V1 := Lib.hid (OwnF.below V1.out b)
    have O8 := Lib.hid (OwnF.below O8.out b)
    have V2 := Lib.hid o
    have LV2 : Hid (∀ k, (Value.slice aV2 N cV2).ownBlock = some k → w11.heap.size ≤ k ∧ k < w12.heap.size) := World.ownsRow.lt o
    have HB := Lib.hid (below_after b HB.out)
    have zw12 := b.size
    clear o b
    clear O8 LO8
    go_wp2_with fail
    go_at_call 21
    refine (eqPointS_same _ _ _ _ _ _ _ V2.out V0.out (by have := HX.out; omega)).mono ?_
    rintro e w13 ⟨rfl, b⟩
    have V0 := Lib.hid (OwnF.below V0.out b)
    have V1 := Lib.hid (OwnF.below V1.out b)
    have V2 := Lib.hid (OwnF.below V2.out b)
    have HB := Lib.hid (below_after b HB.out)
    have zw13 := b.size
    clear b
    go_wp2_with fail
    go_at_call 25
    refine (heldPointS_marks _ _ _ _ _ V1.out (by omega) (by omega) (by have := HX.out; omega)).mono ?_
    rintro e w14 ⟨rfl, rfl⟩
    go_wp2
    go_ret
    exact ⟨rfl, HB.out⟩
end Go.Proofs.Ytkfoelkkllpmdaa
