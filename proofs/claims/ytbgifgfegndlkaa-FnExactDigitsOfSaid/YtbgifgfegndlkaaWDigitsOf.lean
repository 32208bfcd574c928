/-
  The walk of laws.FnExactDigitsOf: for all arguments it returns true and leaves memory as it was. No conditions.
-/
import Derived.Test.YtbgifgfegndlkaaDgS
import Derived.Test.YtbgifgfegndlkaaTrL
import Derived.Test.YtbgifgfegndlkaaOwn
namespace Go.Proofs.Ytbgifgfegndlkaa
open Go.ChangeShapes Go.WideShapes Go.ChangeAt Go.RowKit
set_option linter.unusedVariables false
set_option linter.unusedSimpArgs false
set_option maxRecDepth 100000

theorem totL_le : ∀ (ps : List (List Int)), (∀ i, (ps.getD i []).length ≤ 2) → totL ps ≤ 2 * ps.length
  | [], _ => by simp [totL]
  | X :: t, h => by
    have h0 := h 0
    have := totL_le t (fun i => by simpa [List.getD] using h (i + 1))
    simp [List.getD] at h0
    show X.length + totL t ≤ 2 * (t.length + 1)
    omega
theorem row_lower {B C : Nat} {w0 w w' : World} {e : TypeId} {size : Nat} {v : Value} {n : Nat} {xs : List Value} (h : w.ownsRow B e size v n xs) (h0 : w0.ownsRow B e size v n xs) (hC : w0.heap.size ≤ C) (hb : Below C w w') : w'.ownsRow B e size v n xs := by
  refine ⟨h.1, ?_⟩
  rcases h.2 with h' | ⟨g, cap, cur, h1, h2, h3, h4⟩
  · exact .inl h'
  · have hl := (World.ownsRow.lt h0 g (by rw [h1]; rfl)).2
    exact .inr ⟨g, cap, cur, h1, h2, (hb.block g (by omega)).trans h3, h4⟩
theorem OwnSS.lower {B C : Nat} {w0 w w' : World} {v : Value} {vs : List Value} {xss : List (List Int)} (h : OwnSS B w v vs xss) (h0 : OwnSS B w0 v vs xss) (hC : w0.heap.size ≤ C) (hb : Below C w w') : OwnSS B w' v vs xss :=
  ⟨row_lower h.1 h0.1 hC hb, fun i hi => row_lower (h.2.1 i hi) (h0.2.1 i hi) hC hb, h.2.2⟩
theorem bkT (W : World) (u0 u1 u2 : Int) (t : TypeId) : Bk3 (W.alloc (.cells #[.int .i64 u0, .int .i64 u1, .int .i64 u2] t)) W.heap.size u0 u1 u2 ∧ Below W.heap.size W (W.alloc (.cells #[.int .i64 u0, .int .i64 u1, .int .i64 u2] t)) :=
  ⟨bk3_new W u0 u1 u2 t, by (repeat' (first | (with_reducible exact Below.refl _ _) | (with_reducible refine Below.alloc ?_ ?_ _) | (with_reducible refine Below.setCell ?_ ?_ _) | (with_reducible refine Below.drew ?_) | (with_reducible refine below_drewN ?_ _) | (with_reducible assumption) | (with_reducible refine below_after (by with_reducible assumption) ?_) | go_size))⟩
set_option maxHeartbeats 3200000 in
theorem walkFnExactDigitsOf_any (x0 x1 x2 u0 u1 u2 c : Int) (PS : List (List Int)) (w : World) (hx : PS.length ≤ 60) (hxx : ∀ i, (PS.getD i []).length ≤ 2)
    (hS : ∀ w, Calls Try.prog 41 #[.agg #[.int .i64 x0, .int .i64 x1, .int .i64 x2]] w fun e w' => ∃ v vs, e = .returned (.tuple #[v, .agg #[.int .i64 u0, .int .i64 u1, .int .i64 u2], .int .i64 c]) ∧ OwnSS w.heap.size w' v vs PS ∧ Below w.heap.size w w')
    (hI : ∀ w, Calls Try.prog 42 #[.agg #[.int .i64 x0, .int .i64 x1, .int .i64 x2]] w fun e w' => ∃ v vs, e = .returned (.tuple #[v, .agg #[.int .i64 u0, .int .i64 u1, .int .i64 u2], .int .i64 c]) ∧ OwnSS w.heap.size w' v vs PS ∧ Below w.heap.size w w') :
    Calls Try.prog 12 #[.agg #[.int .i64 x0, .int .i64 x1, .int .i64 x2]] w fun e w' => e = .returned (.bool true) ∧ Below w.heap.size w w' := by
  have HS := Lib.hid hS
  have HI := Lib.hid hI
  have HX := Lib.hid (show PS.length ≤ 140737488351232 by omega)
  have HXX : Hid (∀ i, (PS.getD i []).length ≤ 140737488351232) := fun i => by have := hxx i; omega
  have htl := totL_le PS hxx
  obtain ⟨T, hT⟩ : ∃ T, totL PS = T := ⟨_, rfl⟩
  have HTT := Lib.hid hT
  have hT2 : T ≤ 120 := by omega
  have HTB : Hid (1 + (totL PS : Int) ≤ 4611686018427387904) := by show 1 + (totL PS : Int) ≤ _; omega
  have hneg : decide (1 + (T : Int) < 0) = false := by simp; omega
  clear hS hI hx hxx htl hT
  go_enter Try.func12, Try.ntmps12
  go_upto_region 1 with fail
  obtain ⟨wB, hwB⟩ : ∃ wB, wB = w.alloc (.cells #[.int .i64 x0, .int .i64 x1, .int .i64 x2] 22) := ⟨_, rfl⟩
  rw [← hwB]
  have HBW : Hid (Below w.heap.size w wB) := by
    show Below w.heap.size w wB
    rw [hwB]; (repeat' (first | (with_reducible exact Below.refl _ _) | (with_reducible refine Below.alloc ?_ ?_ _) | (with_reducible refine Below.setCell ?_ ?_ _) | (with_reducible refine Below.drew ?_) | (with_reducible refine below_drewN ?_ _) | (with_reducible assumption) | (with_reducible refine below_after (by with_reducible assumption) ?_) | go_size))
  have HK : Hid (∀ W', Below wB.heap.size wB W' → W'.cell? ⟨w.heap.size, 0, none⟩ = some (.int .i64 x0) ∧ W'.cell? ⟨w.heap.size, 1, none⟩ = some (.int .i64 x1) ∧ W'.cell? ⟨w.heap.size, 2, none⟩ = some (.int .i64 x2) ∧ w.heap.size < W'.heap.size) := by
    intro W' hB
    have hz := hB.size
    have hbs : wB.heap.size = w.heap.size + 1 := by rw [hwB]; simp
    refine ⟨?_, ?_, ?_, by omega⟩
    all_goals (rw [hB.cell (p := ⟨w.heap.size, _, none⟩) (by rw [hbs]; exact Nat.lt_succ_self _), hwB]; go_cell)
  clear hwB
  obtain ⟨s0, s1, s2, sz⟩ := HK.out wB (Below.refl _ _)
  go_wp2_with fail
  go_at_call 17
  refine (toTriple_any _ _ _ _).mono ?_
  rintro e wt ⟨rfl, btr⟩
  have HBt : Hid (Below wB.heap.size wB wt) := below_after btr (Below.refl _ _)
  clear s0 s1 s2 sz btr
  go_wp2_with fail
  go_at_call 41
  refine (HS.out _).mono ?_
  rintro e w1 ⟨v0, vs0, rfl, o0, b0⟩
  have O0 := Lib.hid (o0.mono HBt.out.size)
  have HB1 := Lib.hid (below_after b0 HBt.out)
  clear o0 b0
  go_upto_region 2 with fail
  obtain ⟨H4, b4⟩ := bkT w1 u0 u1 u2 24
  obtain ⟨wA, hwA⟩ : ∃ wA, w1.alloc (.cells #[.int .i64 u0, .int .i64 u1, .int .i64 u2] 24) = wA := ⟨_, rfl⟩
  rw [hwA] at H4 b4 ⊢
  obtain ⟨G4, hG4⟩ : ∃ G, w1.heap.size = G := ⟨_, rfl⟩
  rw [hG4] at H4 ⊢
  have HQ4 := Lib.hid H4
  have HBA := Lib.hid (below_after b4 HB1.out)
  have OA := Lib.hid (O0.out.below b4)
  have zz1 := b4.size
  clear hwA H4 b4 hG4
  obtain ⟨s0, s1, s2, sz⟩ := HK.out wA HBA.out
  go_wp2_with fail
  go_at_call 17
  refine (toTriple_any _ _ _ _).mono ?_
  rintro e wu ⟨rfl, bu⟩
  have HQ4 := Lib.hid (HQ4.out.below bu)
  have HBu := Lib.hid (below_after bu HBA.out)
  have OU := Lib.hid (OA.out.below bu)
  have zz2 := bu.size
  clear s0 s1 s2 sz bu
  go_wp2_with fail
  go_at_call 42
  refine (HI.out _).mono ?_
  rintro e w2 ⟨v1, vs1, rfl, o1, b1⟩
  have O1 := Lib.hid o1
  have OU2 := Lib.hid (OU.out.below b1)
  have HQ4b := Lib.hid (HQ4.out.below b1)
  have HB2 := Lib.hid (below_after b1 HBu.out)
  have zz3 := b1.size
  clear o1 b1
  go_upto_region 3 with fail
  obtain ⟨H7, b7⟩ := bkT w2 u0 u1 u2 24
  obtain ⟨wC, hwC⟩ : ∃ wA, w2.alloc (.cells #[.int .i64 u0, .int .i64 u1, .int .i64 u2] 24) = wA := ⟨_, rfl⟩
  rw [hwC] at H7 b7 ⊢
  obtain ⟨G7, hG7⟩ : ∃ G, w2.heap.size = G := ⟨_, rfl⟩
  rw [hG7] at H7 ⊢
  have HQ7 := Lib.hid H7
  have HBC := Lib.hid (below_after b7 HB2.out)
  have OC := Lib.hid (OU2.out.below b7)
  have O1C := Lib.hid (O1.out.below b7)
  have HQ4c := Lib.hid (HQ4b.out.below b7)
  have zz4 := b7.size
  clear hwC H7 b7 hG7
  go_wp2_with fail
  go_at_call 43
  refine (eqInt64SS_same _ _ _ _ _ _ PS _ O1C.out OC.out HX.out HXX.out).mono ?_
  rintro e w3 ⟨rfl, b3⟩
  obtain ⟨⟨q0, q1, q2⟩, _, _⟩ := HQ4c.out.below b3
  obtain ⟨⟨r0, r1, r2⟩, _, _⟩ := HQ7.out.below b3
  have HQ4d := Lib.hid (HQ4c.out.below b3)
  have OD := Lib.hid (OC.out.below b3)
  have O1D := Lib.hid (O1C.out.below b3)
  have HBD := Lib.hid (below_after b3 HBC.out)
  have zz5 := b3.size
  clear b3
  go_wp2_with fail
  go_at_call 21
  refine (eqTriple_same _ _ _ _).mono ?_
  rintro e w4 ⟨rfl, b4⟩
  have HQ4e := Lib.hid (HQ4d.out.below b4)
  have OE := Lib.hid (OD.out.below b4)
  have O1E := Lib.hid (O1D.out.below b4)
  have HBE := Lib.hid (below_after b4 HBD.out)
  have zz6 := b4.size
  clear b4 q0 q1 q2 r0 r1 r2
  go_wp2_with fail
  go_at_call 44
  refine (markInt64SS_any _ _ _ PS _ _ O1E.out (by omega) HTB.out HX.out HXX.out (by omega)).mono ?_
  rintro e w5 ⟨rfl, o5, b5⟩
  rw [HTT.out]
  have O1F := Lib.hid o5
  have OF := Lib.hid (OE.out.lower O0.out (by omega) b5)
  have HQ4f := Lib.hid (HQ4e.out.same (b5.block G4 HQ4.out.2.2))
  have HBF : Hid (Below wB.heap.size wB w5) := HBE.out.trans (b5.mono HBu.out.size)
  clear o5 b5 zz1 zz2 zz3 zz4 zz5 zz6
  go_wp2_with fail
  go_at_call 45
  refine (heldInt64SS_marks _ _ _ PS 1 _ O1F.out (by omega) HTB.out HX.out HXX.out).mono ?_
  rintro e w6 ⟨rfl, b6⟩
  rw [HTT.out]
  have HQ4g := Lib.hid (HQ4f.out.below b6)
  have OG := Lib.hid (OF.out.below b6)
  have O1G := Lib.hid (O1F.out.below b6)
  have HBG := Lib.hid (below_after b6 HBF.out)
  clear b6
  obtain ⟨s0, s1, s2, sz⟩ := HK.out w6 HBG.out
  go_wp2_with fail
  go_at_call 17
  refine (toTriple_any _ _ _ _).mono ?_
  rintro e wv ⟨rfl, bv⟩
  have HQ4h := Lib.hid (HQ4g.out.below bv)
  have OH := Lib.hid (OG.out.below bv)
  have O1H := Lib.hid (O1G.out.below bv)
  have HBH := Lib.hid (below_after bv HBG.out)
  clear s0 s1 s2 sz bv
  go_wp2_with fail
  go_at_call 42
  refine (HI.out _).mono ?_
  rintro e w7 ⟨v2, vs2, rfl, o2, b2⟩
  have O2 := Lib.hid o2
  have HQ4i := Lib.hid (HQ4h.out.below b2)
  have OI := Lib.hid (OH.out.below b2)
  have O1I := Lib.hid (O1H.out.below b2)
  have HBI := Lib.hid (below_after b2 HBH.out)
  clear o2 b2
  go_upto_region 14 with fail
  obtain ⟨H8, b8⟩ := bkT w7 u0 u1 u2 24
  obtain ⟨wD, hwD⟩ : ∃ wA, w7.alloc (.cells #[.int .i64 u0, .int .i64 u1, .int .i64 u2] 24) = wA := ⟨_, rfl⟩
  rw [hwD] at H8 b8 ⊢
  obtain ⟨G8, hG8⟩ : ∃ G, w7.heap.size = G := ⟨_, rfl⟩
  rw [hG8] at H8 ⊢
  have HQ8 := Lib.hid H8
  have HQ4j := Lib.hid (HQ4i.out.below b8)
  have OJ := Lib.hid (OI.out.below b8)
  have O1J := Lib.hid (O1I.out.below b8)
  have O2J := Lib.hid (O2.out.below b8)
  have HBJ := Lib.hid (below_after b8 HBI.out)
  clear hwD H8 b8 hG8
  go_wp2_with fail
  go_at_call 43
  refine (eqInt64SS_same _ _ _ _ _ _ PS _ O2J.out OJ.out HX.out HXX.out).mono ?_
  rintro e w8 ⟨rfl, b3⟩
  obtain ⟨⟨q0, q1, q2⟩, _, _⟩ := HQ4j.out.below b3
  obtain ⟨⟨r0, r1, r2⟩, _, _⟩ := HQ8.out.below b3
  have O1K := Lib.hid (O1J.out.below b3)
  have HBK := Lib.hid (below_after b3 HBJ.out)
  clear b3
  go_wp2_with fail
  go_at_call 21
  refine (eqTriple_same _ _ _ _).mono ?_
  rintro e w9 ⟨rfl, b4⟩
  have O1L := Lib.hid (O1K.out.below b4)
  have HBL := Lib.hid (below_after b4 HBK.out)
  clear b4 q0 q1 q2 r0 r1 r2
  go_wp2_with fail
  go_at_call 45
  refine (heldInt64SS_marks _ _ _ PS 1 _ O1L.out (by omega) HTB.out HX.out HXX.out).mono ?_
  rintro e w10 ⟨rfl, b6⟩
  rw [HTT.out]
  have HBM := Lib.hid (below_after b6 HBL.out)
  clear b6
  go_wp2
  go_ret
  exact ⟨rfl, below_after HBM.out HBW.out⟩
theorem dgA_bd (a b c : Int) : (∀ i, ((dgA a b c).1.getD i []).length ≤ 2) ∧ (dgA a b c).1.length ≤ 60 := by
  unfold dgA
  split
  · split
    · exact ⟨fun i => by simp, by simp⟩
    · exact dg_two 62 [] a b c (fun i => by simp) (by simp)
  · exact ⟨fun i => by simp, by simp⟩
theorem walkFnExactDigitsOf (x0 x1 x2 : Int) (wx0 : (Lit.int .i64 x0).wf = true) (wx1 : (Lit.int .i64 x1).wf = true) (wx2 : (Lit.int .i64 x2).wf = true) (w : World) :
    Calls Try.prog 12 #[.agg #[.int .i64 x0, .int .i64 x1, .int .i64 x2]] w fun e w' => e = .returned (.bool true) ∧ Below w.heap.size w w' :=
  walkFnExactDigitsOf_any x0 x1 x2 _ _ _ _ _ w (dgA_bd x0 x1 x2).2 (dgA_bd x0 x1 x2).1 (fun w => spec_DigitsOf_any x0 x1 x2 w) (fun w => impl_DigitsOf_any x0 x1 x2 w)
end Go.Proofs.Ytbgifgfegndlkaa
