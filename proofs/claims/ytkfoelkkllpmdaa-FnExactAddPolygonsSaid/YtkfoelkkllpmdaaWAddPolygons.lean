/-
  The walk of laws.FnExactAddPolygons: for all arguments it returns true and leaves memory as it was. No conditions.
-/
import Derived.Test.YtkfoelkkllpmdaaPgL
import Derived.Test.YtkfoelkkllpmdaaPtM
namespace Go.Proofs.Ytkfoelkkllpmdaa
open Go.ChangeShapes Go.WideShapes Go.ChangeAt Go.RowKit
set_option linter.unusedVariables false
set_option maxRecDepth 100000
set_option linter.unusedSimpArgs false
set_option maxRecDepth 100000

theorem szPointS_left (a : Option Addr) (len cap : Nat) (l : Int) (w : World) (h0 : 0 ≤ l) (h1 : l ≤ 1048576) (hl : len ≤ 9223372036854775807) :
    Calls Try.prog 17 #[.slice a len cap, .int .i64 l] w fun e w' => e = .returned (.int .i64 (if l < len then -1 else l - len)) ∧ w = w' := by
  by_cases h : l < len
  · rw [if_pos h]
    have i1 : l - len < 0 := by omega
    have i2 : IntKind.i64.wrap (l - len) = l - len := by rw [IntKind.wrap_i64]; omega
    go_enter Try.func17, Try.ntmps17
    go_wp2
    go_ret
    exact ⟨rfl, rfl⟩
  · rw [if_neg h]
    have i1 : ¬ l - len < 0 := by omega
    have i2 : IntKind.i64.wrap (l - len) = l - len := by rw [IntKind.wrap_i64]; omega
    go_enter Try.func17, Try.ntmps17
    go_wp2
    go_ret
    exact ⟨rfl, rfl⟩
set_option maxHeartbeats 12800000 in
theorem walkFnExactAddPolygons (a : Option Addr) (n cap : Nat) (ps : List (Int × Int)) (d : Option Addr) (m dap : Nat) (qs : List (Int × Int)) (w : World) (hR : RowP w a n ps ∧ n ≤ maxLen) (hQ : RowP w d m qs ∧ m ≤ maxLen) : Calls Try.prog 14 #[.slice a n cap, .slice d m dap] w fun e w' => e = .returned (.bool true) ∧ Below w.heap.size w w' := by
  have hn : n ≤ 9223372036854775807 := by have := hR.2; unfold maxLen at this; omega
  have hm : m ≤ 9223372036854775807 := by have := hQ.2; unfold maxLen at this; omega
  by_cases hbig : (1048576 : Int) < (n : Int)
  · have HZ1 : Hid (∀ w, Calls Try.prog 17 #[.slice a n cap, .int .i64 1048576] w fun e w' => e = .returned (.int .i64 (-1)) ∧ w = w') := fun w => by have := szPointS_left a n cap 1048576 w (by omega) (by omega) hn; rw [if_pos hbig] at this; exact this
    clear hR hQ
    go_enter Try.func14, Try.ntmps14
    go_wp2_with fail
    go_at_call 17
    refine (HZ1.out _).mono ?_
    rintro e wn ⟨rfl, rfl⟩
    go_wp2_with fail
    go_ret
    exact ⟨rfl, by (repeat' (first | (with_reducible exact Below.refl _ _) | (with_reducible refine Below.alloc ?_ ?_ _) | (with_reducible refine Below.setCell ?_ ?_ _) | (with_reducible refine Below.drew ?_) | (with_reducible refine below_drewN ?_ _) | (with_reducible assumption) | (with_reducible refine below_after (by with_reducible assumption) ?_) | go_size))⟩
  · have HZ1 : Hid (∀ w, Calls Try.prog 17 #[.slice a n cap, .int .i64 1048576] w fun e w' => e = .returned (.int .i64 (1048576 - n)) ∧ w = w') := fun w => by have := szPointS_left a n cap 1048576 w (by omega) (by omega) hn; rw [if_neg hbig] at this; exact this
    have i1 : ¬ (1048576 : Int) - (n : Int) < 0 := by omega
    by_cases hbig2 : (1048576 : Int) - (n : Int) < (m : Int)
    · have HZ2 : Hid (∀ w, Calls Try.prog 17 #[.slice d m dap, .int .i64 (1048576 - n)] w fun e w' => e = .returned (.int .i64 (-1)) ∧ w = w') := fun w => by have := szPointS_left d m dap (1048576 - n) w (by omega) (by omega) hm; rw [if_pos hbig2] at this; exact this
      clear hR hQ
      go_enter Try.func14, Try.ntmps14
      go_wp2_with fail
      go_at_call 17
      refine (HZ1.out _).mono ?_
      rintro e wn ⟨rfl, rfl⟩
      go_wp2_with fail
      go_at_call 17
      refine (HZ2.out _).mono ?_
      rintro e wn ⟨rfl, rfl⟩
      go_wp2_with fail
      go_ret
      exact ⟨rfl, by (repeat' (first | (with_reducible exact Below.refl _ _) | (with_reducible refine Below.alloc ?_ ?_ _) | (with_reducible refine Below.setCell ?_ ?_ _) | (with_reducible refine Below.drew ?_) | (with_reducible refine below_drewN ?_ _) | (with_reducible assumption) | (with_reducible refine below_after (by with_reducible assumption) ?_) | go_size))⟩
    · have HZ2 : Hid (∀ w, Calls Try.prog 17 #[.slice d m dap, .int .i64 (1048576 - n)] w fun e w' => e = .returned (.int .i64 (1048576 - n - m)) ∧ w = w') := fun w => by have := szPointS_left d m dap (1048576 - n) w (by omega) (by omega) hm; rw [if_neg hbig2] at this; exact this
      have HL1 : Hid (n ≤ 1048576) := by show n ≤ 1048576; omega
      have HL2 : Hid (m ≤ 1048576) := by show m ≤ 1048576; omega
      have HR1 := Lib.hid hR.1
      have HR2 := Lib.hid hQ.1
      have HN1 := Lib.hid hR.1.1
      have HN2 := Lib.hid hQ.1.1
      have i2 : ¬ (1048576 : Int) - (n : Int) - (m : Int) < 0 := by omega
      have HT1 : Hid (∀ w1, Below w.heap.size w w1 → Calls Try.prog 19 #[.slice a n cap] w1 (RetP w1 n (flat ps))) := fun w1 hb => toPointS_any a n cap ps w1 (RowP.below HR1.out hb) HL1.out
      have HT2 : Hid (∀ w1, Below w.heap.size w w1 → Calls Try.prog 19 #[.slice d m dap] w1 (RetP w1 m (flat qs))) := fun w1 hb => toPointS_any d m dap qs w1 (RowP.below HR2.out hb) HL2.out
      have HX : Hid ((adL ps qs).length ≤ 4194304) := by show (adL ps qs).length ≤ 4194304; have h12 := tlL_len (sums ps qs); unfold adL; (split <;> (try split) <;> (first | omega | (simp only [List.length_nil]; omega)))
      have HS : Hid (∀ a cap d dap w, LV w a n ps → LV w d m qs → Calls Try.prog 45 #[.slice a n cap, .slice d m dap] w fun e w' => ∃ v, e = .returned (.tuple #[v, .int .i64 (adC ps qs)]) ∧ OwnF w.heap.size w' v (adL ps qs).length (flat (adL ps qs)) ∧ Below w.heap.size w w') := fun a cap d dap w h k => spec_AddPolygons_any a d n cap m dap ps qs w h k
      have HI : Hid (∀ a cap d dap w, LV w a n ps → LV w d m qs → Calls Try.prog 46 #[.slice a n cap, .slice d m dap] w fun e w' => ∃ v, e = .returned (.tuple #[v, .int .i64 (adC ps qs)]) ∧ OwnF w.heap.size w' v (adL ps qs).length (flat (adL ps qs)) ∧ Below w.heap.size w w') := fun a cap d dap w h k => impl_AddPolygons_any a d n cap m dap ps qs w h k
      obtain ⟨C, hC⟩ : ∃ V, adC ps qs = V := ⟨_, rfl⟩
      obtain ⟨zs, hzs⟩ : ∃ V, flat (adL ps qs) = V := ⟨_, rfl⟩
      obtain ⟨N, hNN⟩ : ∃ V, (adL ps qs).length = V := ⟨_, rfl⟩
      rw [hC, hzs, hNN] at HS HI
      rw [hNN] at HX
      clear hC hzs hNN hR hQ
      go_enter Try.func14, Try.ntmps14
      have HB : Hid (Below w.heap.size w w) := Below.refl _ _
      go_wp2_with fail
      go_at_call 17
      refine (HZ1.out _).mono ?_
      rintro e wn ⟨rfl, rfl⟩
      go_wp2_with fail
      go_at_call 17
      refine (HZ2.out _).mono ?_
      rintro e wn ⟨rfl, rfl⟩
      go_wp2_with fail
      go_at_call 19
      refine (HT1.out _ HB.out).mono ?_
      rintro e w1 ⟨v, rfl, o, b⟩
      obtain ⟨aO1, cO1, rfl, _⟩ := own_viewF o
      have O1 := Lib.hid o
      have LO1 : Hid (∀ k, (Value.slice aO1 n cO1).ownBlock = some k → w.heap.size ≤ k ∧ k < w1.heap.size) := World.ownsRow.lt o
      have HB := Lib.hid (below_after b HB.out)
      have zw1 := b.size
      clear o b
      go_wp2_with fail
      go_at_call 19
      refine (HT2.out _ HB.out).mono ?_
      rintro e w2 ⟨v, rfl, o, b⟩
      obtain ⟨aO2, cO2, rfl, _⟩ := own_viewF o
      have O1 := Lib.hid (OwnF.below O1.out b)
      have O2 := Lib.hid o
      have LO2 : Hid (∀ k, (Value.slice aO2 m cO2).ownBlock = some k → w1.heap.size ≤ k ∧ k < w2.heap.size) := World.ownsRow.lt o
      have HB := Lib.hid (below_after b HB.out)
      have zw2 := b.size
      clear o b
      go_wp2_with fail
      go_at_call 45
      refine (HS.out _ _ _ _ _ (LV.of_own O1.out HN1.out (by have := HL1.out; omega)) (LV.of_own O2.out HN2.out (by have := HL2.out; omega))).mono ?_
      rintro e w3 ⟨v, rfl, o, b⟩
      obtain ⟨aV0, cV0, rfl, _⟩ := own_viewF o
      have O1 := Lib.hid (OwnF.below O1.out b)
      have O2 := Lib.hid (OwnF.below O2.out b)
      have V0 := Lib.hid o
      have LV0 : Hid (∀ k, (Value.slice aV0 N cV0).ownBlock = some k → w2.heap.size ≤ k ∧ k < w3.heap.size) := World.ownsRow.lt o
      have HB := Lib.hid (below_after b HB.out)
      have zw3 := b.size
      clear o b
      clear O1 LO1
      clear O2 LO2
      go_wp2_with fail
      go_at_call 19
      refine (HT1.out _ HB.out).mono ?_
      rintro e w4 ⟨v, rfl, o, b⟩
      obtain ⟨aO3, cO3, rfl, _⟩ := own_viewF o
      have V0 := Lib.hid (OwnF.below V0.out b)
      have O3 := Lib.hid o
      have LO3 : Hid (∀ k, (Value.slice aO3 n cO3).ownBlock = some k → w3.heap.size ≤ k ∧ k < w4.heap.size) := World.ownsRow.lt o
      have HB := Lib.hid (below_after b HB.out)
      have zw4 := b.size
      clear o b
      go_wp2_with fail
      go_at_call 19
      refine (HT2.out _ HB.out).mono ?_
      rintro e w5 ⟨v, rfl, o, b⟩
      obtain ⟨aO4, cO4, rfl, _⟩ := own_viewF o
      have V0 := Lib.hid (OwnF.below V0.out b)
      have O3 := Lib.hid (OwnF.below O3.out b)
      have O4 := Lib.hid o
      have LO4 : Hid (∀ k, (Value.slice aO4 m cO4).ownBlock = some k → w4.heap.size ≤ k ∧ k < w5.heap.size) := World.ownsRow.lt o
      have HB := Lib.hid (below_after b HB.out)
      have zw5 := b.size
      clear o b
      go_wp2_with fail
      go_at_call 46
      refine (HI.out _ _ _ _ _ (LV.of_own O3.out HN1.out (by have := HL1.out; omega)) (LV.of_own O4.out HN2.out (by have := HL2.out; omega))).mono ?_
      rintro e w6 ⟨v, rfl, o, b⟩
      obtain ⟨aV1, cV1, rfl, _⟩ := own_viewF o
      have V0 := Lib.hid (OwnF.below V0.out b)
      have O3 := Lib.hid (OwnF.below O3.out b)
      have O4 := Lib.hid (OwnF.below O4.out b)
      have V1 := Lib.hid o
      have LV1 : Hid (∀ k, (Value.slice aV1 N cV1).ownBlock = some k → w5.heap.size ≤ k ∧ k < w6.heap.size) := World.ownsRow.lt o
      have HB := Lib.hid (below_after b HB.out)
      have zw6 := b.size
      clear o b
      go_wp2_with fail
      go_at_call 21
      refine (eqPointS_same _ _ _ _ _ _ _ V1.out V0.out (by have := HX.out; omega)).mono ?_
      rintro e w7 ⟨rfl, b⟩
      have V0 := Lib.hid (OwnF.below V0.out b)
      have O3 := Lib.hid (OwnF.below O3.out b)
      have O4 := Lib.hid (OwnF.below O4.out b)
      have V1 := Lib.hid (OwnF.below V1.out b)
      have HB := Lib.hid (below_after b HB.out)
      have zw7 := b.size
      clear b
      go_wp2_with fail
      go_at_call 19
      refine (HT1.out _ HB.out).mono ?_
      rintro e w8 ⟨v, rfl, o, b⟩
      obtain ⟨aO5, cO5, rfl, _⟩ := own_viewF o
      have V0 := Lib.hid (OwnF.below V0.out b)
      have O3 := Lib.hid (OwnF.below O3.out b)
      have O4 := Lib.hid (OwnF.below O4.out b)
      have V1 := Lib.hid (OwnF.below V1.out b)
      have O5 := Lib.hid o
      have LO5 : Hid (∀ k, (Value.slice aO5 n cO5).ownBlock = some k → w7.heap.size ≤ k ∧ k < w8.heap.size) := World.ownsRow.lt o
      have HB := Lib.hid (below_after b HB.out)
      have zw8 := b.size
      clear o b
      go_wp2_with fail
      go_at_call 21
      refine (eqPointS_same _ _ _ _ _ _ _ O3.out O5.out (by have := HL1.out; omega)).mono ?_
      rintro e w9 ⟨rfl, b⟩
      have V0 := Lib.hid (OwnF.below V0.out b)
      have O3 := Lib.hid (OwnF.below O3.out b)
      have O4 := Lib.hid (OwnF.below O4.out b)
      have V1 := Lib.hid (OwnF.below V1.out b)
      have O5 := Lib.hid (OwnF.below O5.out b)
      have HB := Lib.hid (below_after b HB.out)
      have zw9 := b.size
      clear b
      clear O5 LO5
      go_wp2_with fail
      go_at_call 19
      refine (HT2.out _ HB.out).mono ?_
      rintro e w10 ⟨v, rfl, o, b⟩
      obtain ⟨aO6, cO6, rfl, _⟩ := own_viewF o
      have V0 := Lib.hid (OwnF.below V0.out b)
      have O3 := Lib.hid (OwnF.below O3.out b)
      have O4 := Lib.hid (OwnF.below O4.out b)
      have V1 := Lib.hid (OwnF.below V1.out b)
      have O6 := Lib.hid o
      have LO6 : Hid (∀ k, (Value.slice aO6 m cO6).ownBlock = some k → w9.heap.size ≤ k ∧ k < w10.heap.size) := World.ownsRow.lt o
      have HB := Lib.hid (below_after b HB.out)
      have zw10 := b.size
      clear o b
      go_wp2_with fail
      go_at_call 21
      refine (eqPointS_same _ _ _ _ _ _ _ O4.out O6.out (by have := HL2.out; have := HL1.out; omega)).mono ?_
      rintro e w11 ⟨rfl, b⟩
      have V0 := Lib.hid (OwnF.below V0.out b)
      have O3 := Lib.hid (OwnF.below O3.out b)
      have O4 := Lib.hid (OwnF.below O4.out b)
      have V1 := Lib.hid (OwnF.below V1.out b)
      have O6 := Lib.hid (OwnF.below O6.out b)
      have HB := Lib.hid (below_after b HB.out)
      have zw11 := b.size
      clear b
      clear O6 LO6
      go_wp2_with fail
      go_at_call 24
      refine (markPointS_any _ _ _ _ _ _ O3.out (by have := HL2.out; have := HL1.out; omega) (by have := HL2.out; have := HL1.out; omega) (by have := HL2.out; have := HL1.out; omega)).mono ?_
      rintro e w12 ⟨rfl, om, gm⟩
      have V0 := Lib.hid (World.ownsRow.kept V0.out gm (by
        cases h0 : (Value.slice aV0 N cV0).ownBlock with
        | none => exact .inl rfl
        | some k =>
          right
          cases h1 : (Value.slice aO3 n cO3).ownBlock with
          | none => simp
          | some k' =>
            have p := LV0.out k h0
            have q := LO3.out k' h1
            simp; omega) : OwnF _ _ _ _ _)
      have O4 := Lib.hid (World.ownsRow.kept O4.out gm (by
        cases h0 : (Value.slice aO4 m cO4).ownBlock with
        | none => exact .inl rfl
        | some k =>
          right
          cases h1 : (Value.slice aO3 n cO3).ownBlock with
          | none => simp
          | some k' =>
            have p := LO4.out k h0
            have q := LO3.out k' h1
            simp; omega) : OwnF _ _ _ _ _)
      have V1 := Lib.hid (World.ownsRow.kept V1.out gm (by
        cases h0 : (Value.slice aV1 N cV1).ownBlock with
        | none => exact .inl rfl
        | some k =>
          right
          cases h1 : (Value.slice aO3 n cO3).ownBlock with
          | none => simp
          | some k' =>
            have p := LV1.out k h0
            have q := LO3.out k' h1
            simp; omega) : OwnF _ _ _ _ _)
      have zz := HB.out.size
      have HB := Lib.hid (Below.grown HB.out gm HB.out.size (fun k hk => by have := LO3.out k hk; omega))
      have zw12 := gm.size
      have O3 := Lib.hid om
      clear om gm zz
      go_wp2_with fail
      go_at_call 24
      refine (markPointS_any _ _ _ _ _ _ O4.out (by have := HL2.out; have := HL1.out; omega) (by have := HL2.out; have := HL1.out; omega) (by have := HL2.out; have := HL1.out; omega)).mono ?_
      rintro e w13 ⟨rfl, om, gm⟩
      have V0 := Lib.hid (World.ownsRow.kept V0.out gm (by
        cases h0 : (Value.slice aV0 N cV0).ownBlock with
        | none => exact .inl rfl
        | some k =>
          right
          cases h1 : (Value.slice aO4 m cO4).ownBlock with
          | none => simp
          | some k' =>
            have p := LV0.out k h0
            have q := LO4.out k' h1
            simp; omega) : OwnF _ _ _ _ _)
      have O3 := Lib.hid (World.ownsRow.kept O3.out gm (by
        cases h0 : (Value.slice aO3 n cO3).ownBlock with
        | none => exact .inl rfl
        | some k =>
          right
          cases h1 : (Value.slice aO4 m cO4).ownBlock with
          | none => simp
          | some k' =>
            have p := LO3.out k h0
            have q := LO4.out k' h1
            simp; omega) : OwnF _ _ _ _ _)
      have V1 := Lib.hid (World.ownsRow.kept V1.out gm (by
        cases h0 : (Value.slice aV1 N cV1).ownBlock with
        | none => exact .inl rfl
        | some k =>
          right
          cases h1 : (Value.slice aO4 m cO4).ownBlock with
          | none => simp
          | some k' =>
            have p := LV1.out k h0
            have q := LO4.out k' h1
            simp; omega) : OwnF _ _ _ _ _)
      have zz := HB.out.size
      have HB := Lib.hid (Below.grown HB.out gm HB.out.size (fun k hk => by have := LO4.out k hk; omega))
      have zw13 := gm.size
      have O4 := Lib.hid om
      clear om gm zz
      clear O3 LO3
      clear O4 LO4
      go_wp2_with fail
      go_at_call 21
      refine (eqPointS_same _ _ _ _ _ _ _ V1.out V0.out (by have := HX.out; omega)).mono ?_
      rintro e w14 ⟨rfl, b⟩
      have V0 := Lib.hid (OwnF.below V0.out b)
      have V1 := Lib.hid (OwnF.below V1.out b)
      have HB := Lib.hid (below_after b HB.out)
      have zw14 := b.size
      clear b
      go_wp2_with fail
      go_at_call 24
      refine (markPointS_any _ _ _ _ _ _ V1.out (by have := HX.out; omega) (by have := HX.out; omega) (by have := HX.out; omega)).mono ?_
      rintro e w15 ⟨rfl, om, gm⟩
      have V0 := Lib.hid (World.ownsRow.kept V0.out gm (by
        cases h0 : (Value.slice aV0 N cV0).ownBlock with
        | none => exact .inl rfl
        | some k =>
          right
          cases h1 : (Value.slice aV1 N cV1).ownBlock with
          | none => simp
          | some k' =>
            have p := LV0.out k h0
            have q := LV1.out k' h1
            simp; omega) : OwnF _ _ _ _ _)
      have zz := HB.out.size
      have HB := Lib.hid (Below.grown HB.out gm HB.out.size (fun k hk => by have := LV1.out k hk; omega))
      have zw15 := gm.size
      have V1 := Lib.hid om
      clear om gm zz
      go_wp2_with fail
      go_at_call 25
      refine (heldPointS_marks _ _ _ _ _ V1.out (by omega) (by omega) (by have := HX.out; omega)).mono ?_
      rintro e w16 ⟨rfl, rfl⟩
      go_wp2_with fail
      go_at_call 19
      refine (HT1.out _ HB.out).mono ?_
      rintro e w16 ⟨v, rfl, o, b⟩
      obtain ⟨aO7, cO7, rfl, _⟩ := own_viewF o
      have V0 := Lib.hid (OwnF.below V0.out b)
      have V1 := Lib.hid (OwnF.below V1.out b)
      have O7 := Lib.hid o
      have LO7 : Hid (∀ k, (Value.slice aO7 n cO7).ownBlock = some k → w15.heap.size ≤ k ∧ k < w16.heap.size) := World.ownsRow.lt o
      have HB := Lib.hid (below_after b HB.out)
      have zw16 := b.size
      clear o b
      go_wp2_with fail
      go_at_call 19
      refine (HT2.out _ HB.out).mono ?_
      rintro e w17 ⟨v, rfl, o, b⟩
      obtain ⟨aO8, cO8, rfl, _⟩ := own_viewF o
      have V0 := Lib.hid (OwnF.below V0.out b)
      have V1 := Lib.hid (OwnF.below V1.out b)
      have O7 := Lib.hid (OwnF.below O7.out b)
      have O8 := Lib.hid o
      have LO8 : Hid (∀ k, (Value.slice aO8 m cO8).ownBlock = some k → w16.heap.size ≤ k ∧ k < w17.heap.size) := World.ownsRow.lt o
      have HB := Lib.hid (below_after b HB.out)
      have zw17 := b.size
      clear o b
      go_wp2_with fail
      go_at_call 46
      refine (HI.out _ _ _ _ _ (LV.of_own O7.out HN1.out (by have := HL1.out; omega)) (LV.of_own O8.out HN2.out (by have := HL2.out; omega))).mono ?_
      rintro e w18 ⟨v, rfl, o, b⟩
      obtain ⟨aV2, cV2, rfl, _⟩ := own_viewF o
      have V0 := Lib.hid (OwnF.below V0.out b)
      have V1 := Lib.hid (OwnF.below V1.out b)
      have O7 := Lib.hid (OwnF.below O7.out b)
      have O8 := Lib.hid (OwnF.below O8.out b)
      have V2 := Lib.hid o
      have LV2 : Hid (∀ k, (Value.slice aV2 N cV2).ownBlock = some k → w17.heap.size ≤ k ∧ k < w18.heap.size) := World.ownsRow.lt o
      have HB := Lib.hid (below_after b HB.out)
      have zw18 := b.size
      clear o b
      clear O7 LO7
      clear O8 LO8
      go_wp2_with fail
      go_at_call 21
      refine (eqPointS_same _ _ _ _ _ _ _ V2.out V0.out (by have := HX.out; omega)).mono ?_
      rintro e w19 ⟨rfl, b⟩
      have V0 := Lib.hid (OwnF.below V0.out b)
      have V1 := Lib.hid (OwnF.below V1.out b)
      have V2 := Lib.hid (OwnF.below V2.out b)
      have HB := Lib.hid (below_after b HB.out)
      have zw19 := b.size
      clear b
      go_wp2_with fail
      go_at_call 25
      refine (heldPointS_marks _ _ _ _ _ V1.out (by omega) (by omega) (by have := HX.out; omega)).mono ?_
      rintro e w20 ⟨rfl, rfl⟩
      go_wp2
      go_ret
      exact ⟨rfl, HB.out⟩
end Go.Proofs.Ytkfoelkkllpmdaa
