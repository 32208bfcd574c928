/-
  Chapter 8 behind the door: coordinates, insides, distances (own work).
-/
import Derived.Test.YtjjblgmokmalaaaDoorSpK
import Derived.Deep.DeepCutAuto
namespace Go.Proofs.YtjjblgmokmalaaaDoor
open Go.Shelf Go.ChangeShapes Go.WideShapes Go.ChangeAt Go.RowKit
set_option linter.unusedVariables false
set_option maxRecDepth 100000
set_option linter.unusedSimpArgs false
set_option maxRecDepth 100000

/-- A list that grows by literals of the call's own. -/
theorem wpList_app_own (w0 : World) {W : World} {ops : Array Oper} {rest : List Oper} {o : Oper} {a : Act} {Q : Exit → Act → World → Prop} (hgd : o.guard = none) (s x : Operand)
    (ho : o.op = .call { callee := .builtin .append, args := #[s, x], argTypes := #[23, 23] })
    {v : Value} {xs ys : List Int} {g c : Nat} (hown : OwnI w0.heap.size W v xs) (hsrc : ∀ j, j < ys.length → W.cell? ⟨g, j, none⟩ = some (.int .i64 (ys.getD j 0))) (hb : Below w0.heap.size w0 W) (hs : a.eval s = v) (hx : a.eval x = .slice (some ⟨g, 0, none⟩) ys.length c) (hlen : xs.length + ys.length ≤ 8388608)
    (hK : ∀ v' w', OwnI w0.heap.size w' v' (xs ++ ys) → Below w0.heap.size w0 w' → wpList Tryd.prog ops Q rest (a.put o.dst v') w') : wpList Tryd.prog ops Q (o :: rest) a W := by
  obtain ⟨i0, hi, hz0, hz1, hz2⟩ := info_parts info_int
  refine wpList_append_own _ hgd s x 23 ho w0.heap.size 2 i0 (.int .i64 0) 1 8 Tryd.underlying23 hi hz0 hz1 hz2 rfl (by decide) v _ _ hs hown ⟨g, 0, none⟩ ys.length c (ys.map (Value.int .i64)) hx ?_ ?_ ?_ ?_ ?_ hb.size ?_
  · rw [List.length_map]; omega
  · intro j u hj
    rw [List.getElem?_map] at hj
    cases hy : ys[j]? with
    | none => rw [hy] at hj; cases hj
    | some y =>
      rw [hy] at hj
      cases hj
      have hjm := (List.getElem?_eq_some_iff.1 hy).1
      have e : (Addr.add ⟨g, 0, none⟩ j) = ⟨g, j, none⟩ := by unfold Addr.add; split <;> simp_all
      rw [e, hsrc j hjm]
      simp [List.getD, hy]
  · intro u hu; simp only [List.mem_map] at hu; obtain ⟨y, _, rfl⟩ := hu; rfl
  · unfold maxLen; omega
  · omega
  · intro v' w' h1 h2 _
    refine hK v' w' ?_ (hb.grown h2 hb.size (fun k hk => (hown.lt k hk).1))
    show w'.ownsRow w0.heap.size 2 1 v' (xs ++ ys).length ((xs ++ ys).map (Value.int .i64))
    rw [List.length_append, List.map_append]; exact h1
theorem co_dot0 (c0 c1 c2 c3 c4 c5 c6 c7 c8 a0 a1 a2 : Int) : co0 c0 c1 c2 c3 c4 c5 c6 c7 c8 a0 a1 a2 = dotV (sgV (detV c0 c1 c2 c3 c4 c5 c6 c7 c8) * (crX c3 c4 c5 c6 c7 c8)) (sgV (detV c0 c1 c2 c3 c4 c5 c6 c7 c8) * (crY c3 c4 c5 c6 c7 c8)) (sgV (detV c0 c1 c2 c3 c4 c5 c6 c7 c8) * (crZ c3 c4 c5 c6 c7 c8)) a0 a1 a2 := by
  unfold co0 detV dotV
  generalize sgV (detV c0 c1 c2 c3 c4 c5 c6 c7 c8) = s
  unfold crX crY crZ
  grind
theorem co_dot1 (c0 c1 c2 c3 c4 c5 c6 c7 c8 a0 a1 a2 : Int) : co1 c0 c1 c2 c3 c4 c5 c6 c7 c8 a0 a1 a2 = dotV (sgV (detV c0 c1 c2 c3 c4 c5 c6 c7 c8) * (crX c6 c7 c8 c0 c1 c2)) (sgV (detV c0 c1 c2 c3 c4 c5 c6 c7 c8) * (crY c6 c7 c8 c0 c1 c2)) (sgV (detV c0 c1 c2 c3 c4 c5 c6 c7 c8) * (crZ c6 c7 c8 c0 c1 c2)) a0 a1 a2 := by
  unfold co1 detV dotV
  generalize sgV (detV c0 c1 c2 c3 c4 c5 c6 c7 c8) = s
  unfold crX crY crZ
  grind
theorem co_dot2 (c0 c1 c2 c3 c4 c5 c6 c7 c8 a0 a1 a2 : Int) : co2 c0 c1 c2 c3 c4 c5 c6 c7 c8 a0 a1 a2 = dotV (sgV (detV c0 c1 c2 c3 c4 c5 c6 c7 c8) * (crX c0 c1 c2 c3 c4 c5)) (sgV (detV c0 c1 c2 c3 c4 c5 c6 c7 c8) * (crY c0 c1 c2 c3 c4 c5)) (sgV (detV c0 c1 c2 c3 c4 c5 c6 c7 c8) * (crZ c0 c1 c2 c3 c4 c5)) a0 a1 a2 := by
  unfold co2 detV dotV
  generalize sgV (detV c0 c1 c2 c3 c4 c5 c6 c7 c8) = s
  unfold crX crY crZ
  grind
theorem det_dot (c0 c1 c2 c3 c4 c5 c6 c7 c8 : Int) : (detV c0 c1 c2 c3 c4 c5 c6 c7 c8) = dotV (crX c0 c1 c2 c3 c4 c5) (crY c0 c1 c2 c3 c4 c5) (crZ c0 c1 c2 c3 c4 c5) c6 c7 c8 := by
  unfold detV dotV crX crY crZ
  grind
theorem abs_tdiv (n l : Int) (h : 0 < l) : (absI n).tdiv l = absI (n.tdiv l) := by
  have e : (n.tdiv l).natAbs = n.natAbs / l.natAbs := Int.natAbs_tdiv n l
  unfold absI
  rw [e, Int.tdiv_eq_ediv_of_nonneg (by omega)]
  have hl : l = (l.natAbs : Int) := by omega
  rw [Int.natCast_ediv]
  rw [← hl]
theorem normalsOf_ex (c0 c1 c2 c3 c4 c5 c6 c7 c8 : Int) (n0 n1 n2 n3 n4 n5 n6 n7 n8 : Int) (w : World) (g0 : W3 100000 c0 c1 c2) (g1 : W3 100000 c3 c4 c5) (g2 : W3 100000 c6 c7 c8) (e0 : sgV (detV c0 c1 c2 c3 c4 c5 c6 c7 c8) * (crX c3 c4 c5 c6 c7 c8) = n0) (e1 : sgV (detV c0 c1 c2 c3 c4 c5 c6 c7 c8) * (crY c3 c4 c5 c6 c7 c8) = n1) (e2 : sgV (detV c0 c1 c2 c3 c4 c5 c6 c7 c8) * (crZ c3 c4 c5 c6 c7 c8) = n2) (e3 : sgV (detV c0 c1 c2 c3 c4 c5 c6 c7 c8) * (crX c6 c7 c8 c0 c1 c2) = n3) (e4 : sgV (detV c0 c1 c2 c3 c4 c5 c6 c7 c8) * (crY c6 c7 c8 c0 c1 c2) = n4) (e5 : sgV (detV c0 c1 c2 c3 c4 c5 c6 c7 c8) * (crZ c6 c7 c8 c0 c1 c2) = n5) (e6 : sgV (detV c0 c1 c2 c3 c4 c5 c6 c7 c8) * (crX c0 c1 c2 c3 c4 c5) = n6) (e7 : sgV (detV c0 c1 c2 c3 c4 c5 c6 c7 c8) * (crY c0 c1 c2 c3 c4 c5) = n7) (e8 : sgV (detV c0 c1 c2 c3 c4 c5 c6 c7 c8) * (crZ c0 c1 c2 c3 c4 c5) = n8) :
    Calls Tryd.prog 62 #[.agg #[.int .i64 c0, .int .i64 c1, .int .i64 c2, .int .i64 c3, .int .i64 c4, .int .i64 c5, .int .i64 c6, .int .i64 c7, .int .i64 c8]] w fun e w' => (∃ g, e = .returned (.slice (some ⟨g, 0, none⟩) 3 3) ∧ Bk9 w' g n0 n1 n2 n3 n4 n5 n6 n7 n8 ∧ w.heap.size ≤ g) ∧ Below w.heap.size w w' := by
  subst e0 e1 e2 e3 e4 e5 e6 e7 e8
  exact (normalsOf_any c0 c1 c2 c3 c4 c5 c6 c7 c8 w g0 g1 g2).mono fun e w' ⟨g, h1, h2, h3, h4⟩ => ⟨⟨g, h1, h2, h3⟩, h4⟩
set_option maxHeartbeats 1600000 in
theorem cl_IsInCone_panC (GC GQ : Nat) (c0 c1 c2 c3 c4 c5 c6 c7 c8 a0 a1 a2 : Int) (eC : Addr) (w : World) (hes : EA w 1 eC) (hk : isCo c0 c1 c2 c3 c4 c5 c6 c7 c8 = false) (hC : Bk9 w GC c0 c1 c2 c3 c4 c5 c6 c7 c8) (hQ : Bk3 w GQ a0 a1 a2) :
    Calls Tryd.prog 66 #[.pointer (some ⟨GC, 0, none⟩), .pointer (some ⟨GQ, 0, none⟩)] w fun e w' => e = pan eC ∧ Below w.heap.size w w' := by
  have HB := Lib.hid (Below.refl w.heap.size w)
  have HC := Lib.hid hC
  have HQ := Lib.hid hQ
  clear hC hQ
  have HEC := Lib.hid hes
  have HK := Lib.hid hk
  clear hes hk
  go_enter Tryd.func66, Tryd.ntmps66
  obtain ⟨⟨qC0, qC1, qC2, qC3, qC4, qC5, qC6, qC7, qC8⟩, ⟨fC0, fC1, fC2, fC3, fC4, fC5, fC6, fC7, fC8⟩, zC⟩ := HC.out
  obtain ⟨⟨qQ0, qQ1, qQ2⟩, ⟨fQ0, fQ1, fQ2⟩, zQ⟩ := HQ.out
  go_wp2_with fail
  go_at_call 61
  refine (demandCone_no c0 c1 c2 c3 c4 c5 c6 c7 c8 eC _ (HEC.out.below HB.out) HK.out).mono ?_
  rintro e w21 ⟨rfl, hb⟩
  clear qC0 fC0 qC1 fC1 qC2 fC2 qC3 fC3 qC4 fC4 qC5 fC5 qC6 fC6 qC7 fC7 qC8 fC8 zC qQ0 fQ0 qQ1 fQ1 qQ2 fQ2 zQ
  have HC := Lib.hid (HC.out.below hb)
  have HQ := Lib.hid (HQ.out.below hb)
  have HB := Lib.hid (below_after hb HB.out)
  clear hb
  go_wp2_with fail
  exact ⟨rfl, rfl, HB.out⟩
set_option maxHeartbeats 1600000 in
theorem cl_IsInCone_panS (GC GQ : Nat) (c0 c1 c2 c3 c4 c5 c6 c7 c8 a0 a1 a2 : Int) (eS : Addr) (w : World) (hes : EA w 0 eS) (hk : isCo c0 c1 c2 c3 c4 c5 c6 c7 c8 = true) (hka : isSp a0 a1 a2 = false) (hC : Bk9 w GC c0 c1 c2 c3 c4 c5 c6 c7 c8) (hQ : Bk3 w GQ a0 a1 a2) :
    Calls Tryd.prog 66 #[.pointer (some ⟨GC, 0, none⟩), .pointer (some ⟨GQ, 0, none⟩)] w fun e w' => e = pan eS ∧ Below w.heap.size w w' := by
  have HB := Lib.hid (Below.refl w.heap.size w)
  have HC := Lib.hid hC
  have HQ := Lib.hid hQ
  clear hC hQ
  have HES := Lib.hid hes
  have HK := Lib.hid hk
  have HKA := Lib.hid hka
  clear hes hk hka
  go_enter Tryd.func66, Tryd.ntmps66
  obtain ⟨⟨qC0, qC1, qC2, qC3, qC4, qC5, qC6, qC7, qC8⟩, ⟨fC0, fC1, fC2, fC3, fC4, fC5, fC6, fC7, fC8⟩, zC⟩ := HC.out
  obtain ⟨⟨qQ0, qQ1, qQ2⟩, ⟨fQ0, fQ1, fQ2⟩, zQ⟩ := HQ.out
  go_wp2_with fail
  go_at_call 61
  refine (demandCone_yes c0 c1 c2 c3 c4 c5 c6 c7 c8 _ HK.out).mono ?_
  rintro e w21 ⟨rfl, hb⟩
  clear qC0 fC0 qC1 fC1 qC2 fC2 qC3 fC3 qC4 fC4 qC5 fC5 qC6 fC6 qC7 fC7 qC8 fC8 zC qQ0 fQ0 qQ1 fQ1 qQ2 fQ2 zQ
  have HC := Lib.hid (HC.out.below hb)
  have HQ := Lib.hid (HQ.out.below hb)
  have HB := Lib.hid (below_after hb HB.out)
  clear hb
  obtain ⟨⟨qC0, qC1, qC2, qC3, qC4, qC5, qC6, qC7, qC8⟩, ⟨fC0, fC1, fC2, fC3, fC4, fC5, fC6, fC7, fC8⟩, zC⟩ := HC.out
  obtain ⟨⟨qQ0, qQ1, qQ2⟩, ⟨fQ0, fQ1, fQ2⟩, zQ⟩ := HQ.out
  have hb := HB.out
  go_wp2_with fail
  go_at_call 49
  refine (demandSpots_1n a0 a1 a2 _ _ _ _ (HES.out.below (Below.alloc hb hb.size _)) HKA.out (by simp) (by go_cell) (by go_cell) (by go_cell)).mono ?_
  rintro e w22 ⟨rfl, hba⟩
  have hb := al_below hba
  clear hba
  clear qC0 fC0 qC1 fC1 qC2 fC2 qC3 fC3 qC4 fC4 qC5 fC5 qC6 fC6 qC7 fC7 qC8 fC8 zC qQ0 fQ0 qQ1 fQ1 qQ2 fQ2 zQ
  have HC := Lib.hid (HC.out.below hb)
  have HQ := Lib.hid (HQ.out.below hb)
  have HB := Lib.hid (below_after hb HB.out)
  clear hb
  go_wp2_with fail
  exact ⟨rfl, rfl, HB.out⟩
set_option maxHeartbeats 1600000 in
theorem cl_IsInCone_ok (GC GQ : Nat) (c0 c1 c2 c3 c4 c5 c6 c7 c8 a0 a1 a2 : Int)  (w : World) (hk : isCo c0 c1 c2 c3 c4 c5 c6 c7 c8 = true) (hka : isSp a0 a1 a2 = true) (hC : Bk9 w GC c0 c1 c2 c3 c4 c5 c6 c7 c8) (hQ : Bk3 w GQ a0 a1 a2) :
    Calls Tryd.prog 66 #[.pointer (some ⟨GC, 0, none⟩), .pointer (some ⟨GQ, 0, none⟩)] w fun e w' => e = .returned (.tuple #[.bool (icV c0 c1 c2 c3 c4 c5 c6 c7 c8 a0 a1 a2), .int .i64 0]) ∧ Below w.heap.size w w' := by
  have HB := Lib.hid (Below.refl w.heap.size w)
  have HC := Lib.hid hC
  have HQ := Lib.hid hQ
  clear hC hQ
  have HK := Lib.hid hk
  have HKA := Lib.hid hka
  clear hk hka
  obtain ⟨n0, e0⟩ : ∃ n, sgV (detV c0 c1 c2 c3 c4 c5 c6 c7 c8) * (crX c3 c4 c5 c6 c7 c8) = n := ⟨_, rfl⟩
  obtain ⟨n1, e1⟩ : ∃ n, sgV (detV c0 c1 c2 c3 c4 c5 c6 c7 c8) * (crY c3 c4 c5 c6 c7 c8) = n := ⟨_, rfl⟩
  obtain ⟨n2, e2⟩ : ∃ n, sgV (detV c0 c1 c2 c3 c4 c5 c6 c7 c8) * (crZ c3 c4 c5 c6 c7 c8) = n := ⟨_, rfl⟩
  obtain ⟨n3, e3⟩ : ∃ n, sgV (detV c0 c1 c2 c3 c4 c5 c6 c7 c8) * (crX c6 c7 c8 c0 c1 c2) = n := ⟨_, rfl⟩
  obtain ⟨n4, e4⟩ : ∃ n, sgV (detV c0 c1 c2 c3 c4 c5 c6 c7 c8) * (crY c6 c7 c8 c0 c1 c2) = n := ⟨_, rfl⟩
  obtain ⟨n5, e5⟩ : ∃ n, sgV (detV c0 c1 c2 c3 c4 c5 c6 c7 c8) * (crZ c6 c7 c8 c0 c1 c2) = n := ⟨_, rfl⟩
  obtain ⟨n6, e6⟩ : ∃ n, sgV (detV c0 c1 c2 c3 c4 c5 c6 c7 c8) * (crX c0 c1 c2 c3 c4 c5) = n := ⟨_, rfl⟩
  obtain ⟨n7, e7⟩ : ∃ n, sgV (detV c0 c1 c2 c3 c4 c5 c6 c7 c8) * (crY c0 c1 c2 c3 c4 c5) = n := ⟨_, rfl⟩
  obtain ⟨n8, e8⟩ : ∃ n, sgV (detV c0 c1 c2 c3 c4 c5 c6 c7 c8) * (crZ c0 c1 c2 c3 c4 c5) = n := ⟨_, rfl⟩
  have HNO : Hid (∀ w, Calls Tryd.prog 62 #[.agg #[.int .i64 c0, .int .i64 c1, .int .i64 c2, .int .i64 c3, .int .i64 c4, .int .i64 c5, .int .i64 c6, .int .i64 c7, .int .i64 c8]] w fun e w' => (∃ g, e = .returned (.slice (some ⟨g, 0, none⟩) 3 3) ∧ Bk9 w' g n0 n1 n2 n3 n4 n5 n6 n7 n8 ∧ w.heap.size ≤ g) ∧ Below w.heap.size w w') := fun w => normalsOf_ex c0 c1 c2 c3 c4 c5 c6 c7 c8 n0 n1 n2 n3 n4 n5 n6 n7 n8 w ((isCo_parts HK.out).1.up (by omega)) ((isCo_parts HK.out).2.1.up (by omega)) ((isCo_parts HK.out).2.2.1.up (by omega)) e0 e1 e2 e3 e4 e5 e6 e7 e8
  have HW0 : Hid (W3 1000000 n0 n1 n2) := by
    have hs : Wi 1 (sgV (detV c0 c1 c2 c3 c4 c5 c6 c7 c8)) := by rcases sg_cases (detV c0 c1 c2 c3 c4 c5 c6 c7 c8) with ⟨h, _⟩ | ⟨h, _⟩ <;> rw [h] <;> unfold Wi <;> omega
    have hc := (isCo_parts HK.out).2.1.cr (isCo_parts HK.out).2.2.1
    show W3 1000000 n0 n1 n2
    rw [← e0, ← e1, ← e2]
    exact ⟨(hs.mul hc.1).up (by omega), (hs.mul hc.2.1).up (by omega), (hs.mul hc.2.2).up (by omega)⟩
  have HCO0 : Hid (co0 c0 c1 c2 c3 c4 c5 c6 c7 c8 a0 a1 a2 = dotV n0 n1 n2 a0 a1 a2) := by show _ = _; rw [co_dot0, e0, e1, e2]
  have HW1 : Hid (W3 1000000 n3 n4 n5) := by
    have hs : Wi 1 (sgV (detV c0 c1 c2 c3 c4 c5 c6 c7 c8)) := by rcases sg_cases (detV c0 c1 c2 c3 c4 c5 c6 c7 c8) with ⟨h, _⟩ | ⟨h, _⟩ <;> rw [h] <;> unfold Wi <;> omega
    have hc := (isCo_parts HK.out).2.2.1.cr (isCo_parts HK.out).1
    show W3 1000000 n3 n4 n5
    rw [← e3, ← e4, ← e5]
    exact ⟨(hs.mul hc.1).up (by omega), (hs.mul hc.2.1).up (by omega), (hs.mul hc.2.2).up (by omega)⟩
  have HCO1 : Hid (co1 c0 c1 c2 c3 c4 c5 c6 c7 c8 a0 a1 a2 = dotV n3 n4 n5 a0 a1 a2) := by show _ = _; rw [co_dot1, e3, e4, e5]
  have HW2 : Hid (W3 1000000 n6 n7 n8) := by
    have hs : Wi 1 (sgV (detV c0 c1 c2 c3 c4 c5 c6 c7 c8)) := by rcases sg_cases (detV c0 c1 c2 c3 c4 c5 c6 c7 c8) with ⟨h, _⟩ | ⟨h, _⟩ <;> rw [h] <;> unfold Wi <;> omega
    have hc := (isCo_parts HK.out).1.cr (isCo_parts HK.out).2.1
    show W3 1000000 n6 n7 n8
    rw [← e6, ← e7, ← e8]
    exact ⟨(hs.mul hc.1).up (by omega), (hs.mul hc.2.1).up (by omega), (hs.mul hc.2.2).up (by omega)⟩
  have HCO2 : Hid (co2 c0 c1 c2 c3 c4 c5 c6 c7 c8 a0 a1 a2 = dotV n6 n7 n8 a0 a1 a2) := by show _ = _; rw [co_dot2, e6, e7, e8]
  clear e0 e1 e2 e3 e4 e5 e6 e7 e8
  have HV : Hid (icV c0 c1 c2 c3 c4 c5 c6 c7 c8 a0 a1 a2 = inV (dotV n0 n1 n2 a0 a1 a2) (dotV n3 n4 n5 a0 a1 a2) (dotV n6 n7 n8 a0 a1 a2)) := by show _ = _; unfold icV ciO; rw [HK.out, HKA.out, HCO0.out, HCO1.out, HCO2.out]; rfl
  go_enter Tryd.func66, Tryd.ntmps66
  obtain ⟨⟨qC0, qC1, qC2, qC3, qC4, qC5, qC6, qC7, qC8⟩, ⟨fC0, fC1, fC2, fC3, fC4, fC5, fC6, fC7, fC8⟩, zC⟩ := HC.out
  obtain ⟨⟨qQ0, qQ1, qQ2⟩, ⟨fQ0, fQ1, fQ2⟩, zQ⟩ := HQ.out
  go_wp2_with fail
  go_at_call 61
  refine (demandCone_yes c0 c1 c2 c3 c4 c5 c6 c7 c8 _ HK.out).mono ?_
  rintro e w21 ⟨rfl, hb⟩
  clear qC0 fC0 qC1 fC1 qC2 fC2 qC3 fC3 qC4 fC4 qC5 fC5 qC6 fC6 qC7 fC7 qC8 fC8 zC qQ0 fQ0 qQ1 fQ1 qQ2 fQ2 zQ
  have HC := Lib.hid (HC.out.below hb)
  have HQ := Lib.hid (HQ.out.below hb)
  have HB := Lib.hid (below_after hb HB.out)
  clear hb
  obtain ⟨⟨qC0, qC1, qC2, qC3, qC4, qC5, qC6, qC7, qC8⟩, ⟨fC0, fC1, fC2, fC3, fC4, fC5, fC6, fC7, fC8⟩, zC⟩ := HC.out
  obtain ⟨⟨qQ0, qQ1, qQ2⟩, ⟨fQ0, fQ1, fQ2⟩, zQ⟩ := HQ.out
  go_wp2_with fail
  go_at_call 49
  refine (demandSpots_1y a0 a1 a2 _ _ _ HKA.out (by simp) (by go_cell) (by go_cell) (by go_cell)).mono ?_
  rintro e w22 ⟨rfl, hba⟩
  have hb := al_below hba
  clear hba
  clear qC0 fC0 qC1 fC1 qC2 fC2 qC3 fC3 qC4 fC4 qC5 fC5 qC6 fC6 qC7 fC7 qC8 fC8 zC qQ0 fQ0 qQ1 fQ1 qQ2 fQ2 zQ
  have HC := Lib.hid (HC.out.below hb)
  have HQ := Lib.hid (HQ.out.below hb)
  have HB := Lib.hid (below_after hb HB.out)
  clear hb
  obtain ⟨⟨qC0, qC1, qC2, qC3, qC4, qC5, qC6, qC7, qC8⟩, ⟨fC0, fC1, fC2, fC3, fC4, fC5, fC6, fC7, fC8⟩, zC⟩ := HC.out
  obtain ⟨⟨qQ0, qQ1, qQ2⟩, ⟨fQ0, fQ1, fQ2⟩, zQ⟩ := HQ.out
  go_upto_region 3 with fail
  clear qC0 fC0 qC1 fC1 qC2 fC2 qC3 fC3 qC4 fC4 qC5 fC5 qC6 fC6 qC7 fC7 qC8 fC8 zC qQ0 fQ0 qQ1 fQ1 qQ2 fQ2 zQ
  have HXX : Hid (∀ W, Below w22.heap.size w22 W → Bk9 W GC c0 c1 c2 c3 c4 c5 c6 c7 c8 ∧ Bk3 W GQ a0 a1 a2) := fun W hW => ⟨HC.out.below hW, HQ.out.below hW⟩
  go_wp2_with fail
  refine wp_region_held_drew (S := fun W => Below w22.heap.size w22 W) (by kernel_rfl) ?_ (fun hHeld => ?_); focus ((try dsimp only); exact (Below.refl _ _).drew)
  have HC := Lib.hid (HC.out.below (Below.drew (Below.refl _ _)))
  have HQ := Lib.hid (HQ.out.below (Below.drew (Below.refl _ _)))
  have hHeld : Below w22.heap.size w22 _ := hHeld
  obtain ⟨wD22, hwD22⟩ : ∃ wD, w22.drew = wD := ⟨_, rfl⟩
  rw [hwD22] at hHeld HC HQ ⊢
  clear hwD22
  (refine wpAnyH_take (i := 0) (v := ?_) rfl (by kernel_rfl) (by kernel_rfl) (by kernel_rfl) (fun _ _ _ h => h) (Or.inl ⟨rfl, ?_⟩) (by assumption) ?_; rotate_left; focus (intro W hSw; (try dsimp only at hSw); have hxx := HXX.out _ hSw; obtain ⟨hxC, hxQ⟩ := hxx; obtain ⟨⟨iC0, iC1, iC2, iC3, iC4, iC5, iC6, iC7, iC8⟩, _, _⟩ := hxC; obtain ⟨⟨iQ0, iQ1, iQ2⟩, _, _⟩ := hxQ; go_simp; try (with_reducible rfl))); (try simp only [Act.put, List.getElem_toArray, List.getElem_cons_succ, List.getElem_cons_zero, List.setIfInBounds_toArray, List.set_cons_zero, List.set_cons_succ])
  (refine wpAnyH_take (i := 2) (v := ?_) rfl (by kernel_rfl) (by kernel_rfl) (by kernel_rfl) (fun _ _ _ h => h) (Or.inl ⟨rfl, ?_⟩) (by assumption) ?_; rotate_left; focus (intro W hSw; (try dsimp only at hSw); have hxx := HXX.out _ hSw; obtain ⟨hxC, hxQ⟩ := hxx; obtain ⟨⟨iC0, iC1, iC2, iC3, iC4, iC5, iC6, iC7, iC8⟩, _, _⟩ := hxC; obtain ⟨⟨iQ0, iQ1, iQ2⟩, _, _⟩ := hxQ; go_simp; try (with_reducible rfl))); (try simp only [Act.put, List.getElem_toArray, List.getElem_cons_succ, List.getElem_cons_zero, List.setIfInBounds_toArray, List.set_cons_zero, List.set_cons_succ])
  refine wpAnyH_ready (rs := [1]) (by kernel_rfl) (by simp) ?_; refine AllReadyH.cons rfl (fun K hK => ?_) AllReadyH.nil
  go_simp; (go_at_call 62; refine (HNO.out _).mono ?_; rintro en ywr22x0 ⟨⟨GN, rfl, hN, hle⟩, hb2⟩); have HN := Lib.hid hN; clear hN hle; have HC := Lib.hid (HC.out.below hb2); have HQ := Lib.hid (HQ.out.below hb2); refine hK.out _ _ (below_after hb2 hHeld) (fun hHeld2 => ?_); clear hb2; (clear hHeld; rename _ => hHeld; clear hK K; have hHeld : Below w22.heap.size w22 _ := hHeld); (try simp only [Act.put, List.getElem_toArray, List.getElem_cons_succ, List.getElem_cons_zero, List.setIfInBounds_toArray, List.set_cons_zero, List.set_cons_succ])
  refine wpAnyH_ready (rs := [3]) (by kernel_rfl) (by simp) ?_; refine AllReadyH.cons rfl (fun K hK => ?_) AllReadyH.nil
  go_simp; (go_at_call 67; refine (isInside_any n0 n1 n2 n3 n4 n5 n6 n7 n8 a0 a1 a2 _ _ _ HN.out HW0.out HW1.out HW2.out ((isSp_W3 HKA.out).up (by omega))).mono ?_; rintro en ywr22x1 ⟨rfl, hb2⟩); have HC := Lib.hid (HC.out.below hb2); have HQ := Lib.hid (HQ.out.below hb2); have HN := Lib.hid (HN.out.below hb2); refine hK.out _ _ (below_after hb2 hHeld) (fun hHeld2 => ?_); clear hb2; (clear hHeld; rename _ => hHeld; clear hK K; have hHeld : Below w22.heap.size w22 _ := hHeld); (try simp only [Act.put, List.getElem_toArray, List.getElem_cons_succ, List.getElem_cons_zero, List.setIfInBounds_toArray, List.set_cons_zero, List.set_cons_succ])
  (refine wpAnyH_take (i := 4) (v := ?_) rfl (by kernel_rfl) (by kernel_rfl) (by kernel_rfl) (fun _ _ _ h => h) (Or.inl ⟨rfl, ?_⟩) (by assumption) ?_; rotate_left; focus (intro W hSw; (try dsimp only at hSw); have hxx := HXX.out _ hSw; obtain ⟨hxC, hxQ⟩ := hxx; obtain ⟨⟨iC0, iC1, iC2, iC3, iC4, iC5, iC6, iC7, iC8⟩, _, _⟩ := hxC; obtain ⟨⟨iQ0, iQ1, iQ2⟩, _, _⟩ := hxQ; go_simp; try (with_reducible rfl))); (try simp only [Act.put, List.getElem_toArray, List.getElem_cons_succ, List.getElem_cons_zero, List.setIfInBounds_toArray, List.set_cons_zero, List.set_cons_succ])
  (refine wpAnyH_take (i := 5) (v := ?_) rfl (by kernel_rfl) (by kernel_rfl) (by kernel_rfl) (fun _ _ _ h => h) (Or.inl ⟨rfl, ?_⟩) (by assumption) ?_; rotate_left; focus (intro W hSw; (try dsimp only at hSw); have hxx := HXX.out _ hSw; obtain ⟨hxC, hxQ⟩ := hxx; obtain ⟨⟨iC0, iC1, iC2, iC3, iC4, iC5, iC6, iC7, iC8⟩, _, _⟩ := hxC; obtain ⟨⟨iQ0, iQ1, iQ2⟩, _, _⟩ := hxQ; go_simp; try (with_reducible rfl))); (try simp only [Act.put, List.getElem_toArray, List.getElem_cons_succ, List.getElem_cons_zero, List.setIfInBounds_toArray, List.set_cons_zero, List.set_cons_succ])
  refine wpAnyH_done (by kernel_rfl) ?_ _
  have HB := Lib.hid (HB.out.trans (hHeld.mono HB.out.size))
  clear hHeld HXX
  obtain ⟨⟨qC0, qC1, qC2, qC3, qC4, qC5, qC6, qC7, qC8⟩, ⟨fC0, fC1, fC2, fC3, fC4, fC5, fC6, fC7, fC8⟩, zC⟩ := HC.out
  obtain ⟨⟨qQ0, qQ1, qQ2⟩, ⟨fQ0, fQ1, fQ2⟩, zQ⟩ := HQ.out
  go_wp2_with fail
  refine bodyPost_ret (v := .tuple #[.bool (inV (dotV n0 n1 n2 a0 a1 a2) (dotV n3 n4 n5 a0 a1 a2) (dotV n6 n7 n8 a0 a1 a2)), .int .i64 0]) (by simp (maxDischargeDepth := 8) [results, Tryd.results66, go_sem, *]) rfl ?_
  have hb := HB.out
  exact ⟨by rw [HV.out], by (repeat' (first | (with_reducible exact Below.refl _ _) | (with_reducible refine Below.alloc ?_ ?_ _) | (with_reducible refine Below.setCell ?_ ?_ _) | (with_reducible refine Below.drew ?_) | (with_reducible refine below_drewN ?_ _) | (with_reducible assumption) | (with_reducible refine below_after (by with_reducible assumption) ?_) | go_size))⟩
set_option maxHeartbeats 1600000 in
theorem impl_IsInCone_any (c0 c1 c2 c3 c4 c5 c6 c7 c8 a0 a1 a2 : Int) (eF eS eC : Addr) (w : World) (hF : EA w 3 eF) (hS : EA w 0 eS) (hC : EA w 1 eC) (nS : eS ≠ eF) (nC : eC ≠ eF) :
    Calls Tryd.prog 28 #[.agg #[.int .i64 c0, .int .i64 c1, .int .i64 c2, .int .i64 c3, .int .i64 c4, .int .i64 c5, .int .i64 c6, .int .i64 c7, .int .i64 c8], .agg #[.int .i64 a0, .int .i64 a1, .int .i64 a2]] w fun e w' => e = .returned (.tuple #[.bool (icV c0 c1 c2 c3 c4 c5 c6 c7 c8 a0 a1 a2), .int .i64 (bok (ciO c0 c1 c2 c3 c4 c5 c6 c7 c8 a0 a1 a2))]) ∧ Below w.heap.size w w' := by
  have hmf : ∀ (fn : Fn) (first cap : Array Value) (w : World), (Instr.makeFunc fn first cap).run Tryd.prog w = .ok (.func fn first cap) w := fun _ _ _ _ => rfl
  have HEF := Lib.hid hF
  have HES := Lib.hid hS
  have HEC := Lib.hid hC
  have HNS := Lib.hid nS
  have HNC := Lib.hid nC
  clear hF hS hC nS nC
  cases hk : isCo c0 c1 c2 c3 c4 c5 c6 c7 c8
  · have HK := Lib.hid hk
    clear hk
    obtain ⟨GC, hG⟩ : ∃ G, w.heap.size = G := ⟨_, rfl⟩
    have HG := Lib.hid hG
    go_enter Tryd.func28, Tryd.ntmps28
    go_upto_region 1 with fail
    obtain ⟨w0, hw0⟩ : ∃ w0, w0 = ((w.alloc (.cells #[.int .i64 c0, .int .i64 c1, .int .i64 c2, .int .i64 c3, .int .i64 c4, .int .i64 c5, .int .i64 c6, .int .i64 c7, .int .i64 c8] 39)).alloc (.cells #[.int .i64 a0, .int .i64 a1, .int .i64 a2] 26)) := ⟨_, rfl⟩
    rw [← hw0]
    have HC : Hid (Bk9 w0 GC c0 c1 c2 c3 c4 c5 c6 c7 c8) := by
      have h := (bk9_new w c0 c1 c2 c3 c4 c5 c6 c7 c8 39).below (W' := ((w.alloc (.cells #[.int .i64 c0, .int .i64 c1, .int .i64 c2, .int .i64 c3, .int .i64 c4, .int .i64 c5, .int .i64 c6, .int .i64 c7, .int .i64 c8] 39)).alloc (.cells #[.int .i64 a0, .int .i64 a1, .int .i64 a2] 26))) (by (repeat' (first | (with_reducible exact Below.refl _ _) | (with_reducible refine Below.alloc ?_ ?_ _) | (with_reducible refine Below.setCell ?_ ?_ _) | (with_reducible refine Below.drew ?_) | (with_reducible refine below_drewN ?_ _) | (with_reducible assumption) | (with_reducible refine below_after (by with_reducible assumption) ?_) | go_size)))
      (try simp only [World.size_alloc] at h)
      rw [hG] at h
      rw [hw0]; exact h
    have HQ : Hid (Bk3 w0 (GC + 1) a0 a1 a2) := by
      have h := (bk3_new (w.alloc (.cells #[.int .i64 c0, .int .i64 c1, .int .i64 c2, .int .i64 c3, .int .i64 c4, .int .i64 c5, .int .i64 c6, .int .i64 c7, .int .i64 c8] 39)) a0 a1 a2 26).below (W' := ((w.alloc (.cells #[.int .i64 c0, .int .i64 c1, .int .i64 c2, .int .i64 c3, .int .i64 c4, .int .i64 c5, .int .i64 c6, .int .i64 c7, .int .i64 c8] 39)).alloc (.cells #[.int .i64 a0, .int .i64 a1, .int .i64 a2] 26))) (by (repeat' (first | (with_reducible exact Below.refl _ _) | (with_reducible refine Below.alloc ?_ ?_ _) | (with_reducible refine Below.setCell ?_ ?_ _) | (with_reducible refine Below.drew ?_) | (with_reducible refine below_drewN ?_ _) | (with_reducible assumption) | (with_reducible refine below_after (by with_reducible assumption) ?_) | go_size)))
      (try simp only [World.size_alloc] at h)
      rw [hG] at h
      rw [hw0]; exact h
    have HB : Hid (Below w.heap.size w w0) := by show Below w.heap.size w w0; rw [hw0]; (repeat' (first | (with_reducible exact Below.refl _ _) | (with_reducible refine Below.alloc ?_ ?_ _) | (with_reducible refine Below.setCell ?_ ?_ _) | (with_reducible refine Below.drew ?_) | (with_reducible refine below_drewN ?_ _) | (with_reducible assumption) | (with_reducible refine below_after (by with_reducible assumption) ?_) | go_size))
    clear hw0
    obtain ⟨GQ, hGQ⟩ : ∃ g, GC + 1 = g := ⟨_, rfl⟩
    rw [hGQ] at HQ ⊢
    have le_C : w.heap.size ≤ GC := by omega
    have le_Q : w.heap.size ≤ GQ := by omega
    have ne_Q_C : GQ ≠ GC := by omega
    have ne_C_Q : GC ≠ GQ := by omega
    clear hGQ
    obtain ⟨⟨qC0, qC1, qC2, qC3, qC4, qC5, qC6, qC7, qC8⟩, ⟨fC0, fC1, fC2, fC3, fC4, fC5, fC6, fC7, fC8⟩, zC⟩ := HC.out
    obtain ⟨⟨qQ0, qQ1, qQ2⟩, ⟨fQ0, fQ1, fQ2⟩, zQ⟩ := HQ.out
    go_wp2_with fail
    clear qC0 fC0 qC1 fC1 qC2 fC2 qC3 fC3 qC4 fC4 qC5 fC5 qC6 fC6 qC7 fC7 qC8 fC8 zC qQ0 fQ0 qQ1 fQ1 qQ2 fQ2 zQ
    go_at_call 65
    refine (door_pan_bool 66 _ eC 1 w0 (enters_of Tryd.func66 (by kernel_rfl) rfl) (fun W hW => codeOfError_one eF eC W (HEF.out.below (below_after hW HB.out)) (HEC.out.below (below_after hW HB.out)).b HNC.out) (fun W hW => cl_IsInCone_panC GC GQ c0 c1 c2 c3 c4 c5 c6 c7 c8 a0 a1 a2 eC W (HEC.out.below (below_after hW HB.out)) HK.out (HC.out.below hW) (HQ.out.below hW))).mono ?_
    rintro e w9 ⟨rfl, hb⟩
    have HB := Lib.hid (below_after hb HB.out)
    clear hb
    clear HC
    clear HQ
    go_wp2_with fail
    refine bodyPost_ret (v := .tuple #[.bool false, .int .i64 1]) (by simp (maxDischargeDepth := 8) [results, Tryd.results28, go_sem, *]) rfl ?_
    have hb := HB.out
    exact ⟨by simp [icV, ciO, bok, HK.out], by (repeat' (first | (with_reducible exact Below.refl _ _) | (with_reducible refine Below.alloc ?_ ?_ _) | (with_reducible refine Below.setCell ?_ ?_ _) | (with_reducible refine Below.drew ?_) | (with_reducible refine below_drewN ?_ _) | (with_reducible assumption) | (with_reducible refine below_after (by with_reducible assumption) ?_) | go_size))⟩
  · have HK := Lib.hid hk
    clear hk
    cases hka : isSp a0 a1 a2
    · have HKA := Lib.hid hka
      clear hka
      obtain ⟨GC, hG⟩ : ∃ G, w.heap.size = G := ⟨_, rfl⟩
      have HG := Lib.hid hG
      go_enter Tryd.func28, Tryd.ntmps28
      go_upto_region 1 with fail
      obtain ⟨w0, hw0⟩ : ∃ w0, w0 = ((w.alloc (.cells #[.int .i64 c0, .int .i64 c1, .int .i64 c2, .int .i64 c3, .int .i64 c4, .int .i64 c5, .int .i64 c6, .int .i64 c7, .int .i64 c8] 39)).alloc (.cells #[.int .i64 a0, .int .i64 a1, .int .i64 a2] 26)) := ⟨_, rfl⟩
      rw [← hw0]
      have HC : Hid (Bk9 w0 GC c0 c1 c2 c3 c4 c5 c6 c7 c8) := by
        have h := (bk9_new w c0 c1 c2 c3 c4 c5 c6 c7 c8 39).below (W' := ((w.alloc (.cells #[.int .i64 c0, .int .i64 c1, .int .i64 c2, .int .i64 c3, .int .i64 c4, .int .i64 c5, .int .i64 c6, .int .i64 c7, .int .i64 c8] 39)).alloc (.cells #[.int .i64 a0, .int .i64 a1, .int .i64 a2] 26))) (by (repeat' (first | (with_reducible exact Below.refl _ _) | (with_reducible refine Below.alloc ?_ ?_ _) | (with_reducible refine Below.setCell ?_ ?_ _) | (with_reducible refine Below.drew ?_) | (with_reducible refine below_drewN ?_ _) | (with_reducible assumption) | (with_reducible refine below_after (by with_reducible assumption) ?_) | go_size)))
        (try simp only [World.size_alloc] at h)
        rw [hG] at h
        rw [hw0]; exact h
      have HQ : Hid (Bk3 w0 (GC + 1) a0 a1 a2) := by
        have h := (bk3_new (w.alloc (.cells #[.int .i64 c0, .int .i64 c1, .int .i64 c2, .int .i64 c3, .int .i64 c4, .int .i64 c5, .int .i64 c6, .int .i64 c7, .int .i64 c8] 39)) a0 a1 a2 26).below (W' := ((w.alloc (.cells #[.int .i64 c0, .int .i64 c1, .int .i64 c2, .int .i64 c3, .int .i64 c4, .int .i64 c5, .int .i64 c6, .int .i64 c7, .int .i64 c8] 39)).alloc (.cells #[.int .i64 a0, .int .i64 a1, .int .i64 a2] 26))) (by (repeat' (first | (with_reducible exact Below.refl _ _) | (with_reducible refine Below.alloc ?_ ?_ _) | (with_reducible refine Below.setCell ?_ ?_ _) | (with_reducible refine Below.drew ?_) | (with_reducible refine below_drewN ?_ _) | (with_reducible assumption) | (with_reducible refine below_after (by with_reducible assumption) ?_) | go_size)))
        (try simp only [World.size_alloc] at h)
        rw [hG] at h
        rw [hw0]; exact h
      have HB : Hid (Below w.heap.size w w0) := by show Below w.heap.size w w0; rw [hw0]; (repeat' (first | (with_reducible exact Below.refl _ _) | (with_reducible refine Below.alloc ?_ ?_ _) | (with_reducible refine Below.setCell ?_ ?_ _) | (with_reducible refine Below.drew ?_) | (with_reducible refine below_drewN ?_ _) | (with_reducible assumption) | (with_reducible refine below_after (by with_reducible assumption) ?_) | go_size))
      clear hw0
      obtain ⟨GQ, hGQ⟩ : ∃ g, GC + 1 = g := ⟨_, rfl⟩
      rw [hGQ] at HQ ⊢
      have le_C : w.heap.size ≤ GC := by omega
      have le_Q : w.heap.size ≤ GQ := by omega
      have ne_Q_C : GQ ≠ GC := by omega
      have ne_C_Q : GC ≠ GQ := by omega
      clear hGQ
      obtain ⟨⟨qC0, qC1, qC2, qC3, qC4, qC5, qC6, qC7, qC8⟩, ⟨fC0, fC1, fC2, fC3, fC4, fC5, fC6, fC7, fC8⟩, zC⟩ := HC.out
      obtain ⟨⟨qQ0, qQ1, qQ2⟩, ⟨fQ0, fQ1, fQ2⟩, zQ⟩ := HQ.out
      go_wp2_with fail
      clear qC0 fC0 qC1 fC1 qC2 fC2 qC3 fC3 qC4 fC4 qC5 fC5 qC6 fC6 qC7 fC7 qC8 fC8 zC qQ0 fQ0 qQ1 fQ1 qQ2 fQ2 zQ
      go_at_call 65
      refine (door_pan_bool 66 _ eS 1 w0 (enters_of Tryd.func66 (by kernel_rfl) rfl) (fun W hW => codeOfError_one eF eS W (HEF.out.below (below_after hW HB.out)) (HES.out.below (below_after hW HB.out)).b HNS.out) (fun W hW => cl_IsInCone_panS GC GQ c0 c1 c2 c3 c4 c5 c6 c7 c8 a0 a1 a2 eS W (HES.out.below (below_after hW HB.out)) HK.out HKA.out (HC.out.below hW) (HQ.out.below hW))).mono ?_
      rintro e w9 ⟨rfl, hb⟩
      have HB := Lib.hid (below_after hb HB.out)
      clear hb
      clear HC
      clear HQ
      go_wp2_with fail
      refine bodyPost_ret (v := .tuple #[.bool false, .int .i64 1]) (by simp (maxDischargeDepth := 8) [results, Tryd.results28, go_sem, *]) rfl ?_
      have hb := HB.out
      exact ⟨by simp [icV, ciO, bok, HK.out, HKA.out], by (repeat' (first | (with_reducible exact Below.refl _ _) | (with_reducible refine Below.alloc ?_ ?_ _) | (with_reducible refine Below.setCell ?_ ?_ _) | (with_reducible refine Below.drew ?_) | (with_reducible refine below_drewN ?_ _) | (with_reducible assumption) | (with_reducible refine below_after (by with_reducible assumption) ?_) | go_size))⟩
    · have HKA := Lib.hid hka
      clear hka
      obtain ⟨GC, hG⟩ : ∃ G, w.heap.size = G := ⟨_, rfl⟩
      have HG := Lib.hid hG
      go_enter Tryd.func28, Tryd.ntmps28
      go_upto_region 1 with fail
      obtain ⟨w0, hw0⟩ : ∃ w0, w0 = ((w.alloc (.cells #[.int .i64 c0, .int .i64 c1, .int .i64 c2, .int .i64 c3, .int .i64 c4, .int .i64 c5, .int .i64 c6, .int .i64 c7, .int .i64 c8] 39)).alloc (.cells #[.int .i64 a0, .int .i64 a1, .int .i64 a2] 26)) := ⟨_, rfl⟩
      rw [← hw0]
      have HC : Hid (Bk9 w0 GC c0 c1 c2 c3 c4 c5 c6 c7 c8) := by
        have h := (bk9_new w c0 c1 c2 c3 c4 c5 c6 c7 c8 39).below (W' := ((w.alloc (.cells #[.int .i64 c0, .int .i64 c1, .int .i64 c2, .int .i64 c3, .int .i64 c4, .int .i64 c5, .int .i64 c6, .int .i64 c7, .int .i64 c8] 39)).alloc (.cells #[.int .i64 a0, .int .i64 a1, .int .i64 a2] 26))) (by (repeat' (first | (with_reducible exact Below.refl _ _) | (with_reducible refine Below.alloc ?_ ?_ _) | (with_reducible refine Below.setCell ?_ ?_ _) | (with_reducible refine Below.drew ?_) | (with_reducible refine below_drewN ?_ _) | (with_reducible assumption) | (with_reducible refine below_after (by with_reducible assumption) ?_) | go_size)))
        (try simp only [World.size_alloc] at h)
        rw [hG] at h
        rw [hw0]; exact h
      have HQ : Hid (Bk3 w0 (GC + 1) a0 a1 a2) := by
        have h := (bk3_new (w.alloc (.cells #[.int .i64 c0, .int .i64 c1, .int .i64 c2, .int .i64 c3, .int .i64 c4, .int .i64 c5, .int .i64 c6, .int .i64 c7, .int .i64 c8] 39)) a0 a1 a2 26).below (W' := ((w.alloc (.cells #[.int .i64 c0, .int .i64 c1, .int .i64 c2, .int .i64 c3, .int .i64 c4, .int .i64 c5, .int .i64 c6, .int .i64 c7, .int .i64 c8] 39)).alloc (.cells #[.int .i64 a0, .int .i64 a1, .int .i64 a2] 26))) (by (repeat' (first | (with_reducible exact Below.refl _ _) | (with_reducible refine Below.alloc ?_ ?_ _) | (with_reducible refine Below.setCell ?_ ?_ _) | (with_reducible refine Below.drew ?_) | (with_reducible refine below_drewN ?_ _) | (with_reducible assumption) | (with_reducible refine below_after (by with_reducible assumption) ?_) | go_size)))
        (try simp only [World.size_alloc] at h)
        rw [hG] at h
        rw [hw0]; exact h
      have HB : Hid (Below w.heap.size w w0) := by show Below w.heap.size w w0; rw [hw0]; (repeat' (first | (with_reducible exact Below.refl _ _) | (with_reducible refine Below.alloc ?_ ?_ _) | (with_reducible refine Below.setCell ?_ ?_ _) | (with_reducible refine Below.drew ?_) | (with_reducible refine below_drewN ?_ _) | (with_reducible assumption) | (with_reducible refine below_after (by with_reducible assumption) ?_) | go_size))
      clear hw0
      obtain ⟨GQ, hGQ⟩ : ∃ g, GC + 1 = g := ⟨_, rfl⟩
      rw [hGQ] at HQ ⊢
      have le_C : w.heap.size ≤ GC := by omega
      have le_Q : w.heap.size ≤ GQ := by omega
      have ne_Q_C : GQ ≠ GC := by omega
      have ne_C_Q : GC ≠ GQ := by omega
      clear hGQ
      obtain ⟨⟨qC0, qC1, qC2, qC3, qC4, qC5, qC6, qC7, qC8⟩, ⟨fC0, fC1, fC2, fC3, fC4, fC5, fC6, fC7, fC8⟩, zC⟩ := HC.out
      obtain ⟨⟨qQ0, qQ1, qQ2⟩, ⟨fQ0, fQ1, fQ2⟩, zQ⟩ := HQ.out
      go_wp2_with fail
      clear qC0 fC0 qC1 fC1 qC2 fC2 qC3 fC3 qC4 fC4 qC5 fC5 qC6 fC6 qC7 fC7 qC8 fC8 zC qQ0 fQ0 qQ1 fQ1 qQ2 fQ2 zQ
      go_at_call 65
      refine (door_ret_bool 66 _ 0 (fun v _ => v = .bool (icV c0 c1 c2 c3 c4 c5 c6 c7 c8 a0 a1 a2)) w0 (enters_of Tryd.func66 (by kernel_rfl) rfl) (fun _ _ _ h => h) (fun W hW hlt => ?_)).mono ?_
      · refine (cl_IsInCone_ok GC GQ c0 c1 c2 c3 c4 c5 c6 c7 c8 a0 a1 a2 W HK.out HKA.out (HC.out.below hW) (HQ.out.below hW)).mono ?_
        rintro e w2 ⟨rfl, hb⟩
        exact ⟨_, rfl, rfl, hb⟩
      rintro e w9 ⟨v, rfl, rfl, hb⟩
      have HB := Lib.hid (below_after hb HB.out)
      clear hb
      clear HC
      clear HQ
      go_wp2_with fail
      refine bodyPost_ret (v := .tuple #[.bool (icV c0 c1 c2 c3 c4 c5 c6 c7 c8 a0 a1 a2), .int .i64 (0)]) (by simp (maxDischargeDepth := 8) [results, Tryd.results28, go_sem, *]) rfl ?_
      have hb := HB.out
      exact ⟨by simp [bok, ciO, HK.out, HKA.out], by (repeat' (first | (with_reducible exact Below.refl _ _) | (with_reducible refine Below.alloc ?_ ?_ _) | (with_reducible refine Below.setCell ?_ ?_ _) | (with_reducible refine Below.drew ?_) | (with_reducible refine below_drewN ?_ _) | (with_reducible assumption) | (with_reducible refine below_after (by with_reducible assumption) ?_) | go_size))⟩
set_option maxHeartbeats 1600000 in
theorem cl_CoordinatesIn_panC (GC GQ : Nat) (c0 c1 c2 c3 c4 c5 c6 c7 c8 a0 a1 a2 : Int) (eC : Addr) (w : World) (hes : EA w 1 eC) (hk : isCo c0 c1 c2 c3 c4 c5 c6 c7 c8 = false) (hC : Bk9 w GC c0 c1 c2 c3 c4 c5 c6 c7 c8) (hQ : Bk3 w GQ a0 a1 a2) :
    Calls Tryd.prog 60 #[.pointer (some ⟨GC, 0, none⟩), .pointer (some ⟨GQ, 0, none⟩)] w fun e w' => e = pan eC ∧ Below w.heap.size w w' := by
  have HB := Lib.hid (Below.refl w.heap.size w)
  have HC := Lib.hid hC
  have HQ := Lib.hid hQ
  clear hC hQ
  have HEC := Lib.hid hes
  have HK := Lib.hid hk
  clear hes hk
  go_enter Tryd.func60, Tryd.ntmps60
  obtain ⟨⟨qC0, qC1, qC2, qC3, qC4, qC5, qC6, qC7, qC8⟩, ⟨fC0, fC1, fC2, fC3, fC4, fC5, fC6, fC7, fC8⟩, zC⟩ := HC.out
  obtain ⟨⟨qQ0, qQ1, qQ2⟩, ⟨fQ0, fQ1, fQ2⟩, zQ⟩ := HQ.out
  go_wp2_with fail
  go_at_call 61
  refine (demandCone_no c0 c1 c2 c3 c4 c5 c6 c7 c8 eC _ (HEC.out.below HB.out) HK.out).mono ?_
  rintro e w21 ⟨rfl, hb⟩
  clear qC0 fC0 qC1 fC1 qC2 fC2 qC3 fC3 qC4 fC4 qC5 fC5 qC6 fC6 qC7 fC7 qC8 fC8 zC qQ0 fQ0 qQ1 fQ1 qQ2 fQ2 zQ
  have HC := Lib.hid (HC.out.below hb)
  have HQ := Lib.hid (HQ.out.below hb)
  have HB := Lib.hid (below_after hb HB.out)
  clear hb
  go_wp2_with fail
  exact ⟨rfl, rfl, HB.out⟩
set_option maxHeartbeats 1600000 in
theorem cl_CoordinatesIn_panS (GC GQ : Nat) (c0 c1 c2 c3 c4 c5 c6 c7 c8 a0 a1 a2 : Int) (eS : Addr) (w : World) (hes : EA w 0 eS) (hk : isCo c0 c1 c2 c3 c4 c5 c6 c7 c8 = true) (hka : isSp a0 a1 a2 = false) (hC : Bk9 w GC c0 c1 c2 c3 c4 c5 c6 c7 c8) (hQ : Bk3 w GQ a0 a1 a2) :
    Calls Tryd.prog 60 #[.pointer (some ⟨GC, 0, none⟩), .pointer (some ⟨GQ, 0, none⟩)] w fun e w' => e = pan eS ∧ Below w.heap.size w w' := by
  have HB := Lib.hid (Below.refl w.heap.size w)
  have HC := Lib.hid hC
  have HQ := Lib.hid hQ
  clear hC hQ
  have HES := Lib.hid hes
  have HK := Lib.hid hk
  have HKA := Lib.hid hka
  clear hes hk hka
  go_enter Tryd.func60, Tryd.ntmps60
  obtain ⟨⟨qC0, qC1, qC2, qC3, qC4, qC5, qC6, qC7, qC8⟩, ⟨fC0, fC1, fC2, fC3, fC4, fC5, fC6, fC7, fC8⟩, zC⟩ := HC.out
  obtain ⟨⟨qQ0, qQ1, qQ2⟩, ⟨fQ0, fQ1, fQ2⟩, zQ⟩ := HQ.out
  go_wp2_with fail
  go_at_call 61
  refine (demandCone_yes c0 c1 c2 c3 c4 c5 c6 c7 c8 _ HK.out).mono ?_
  rintro e w21 ⟨rfl, hb⟩
  clear qC0 fC0 qC1 fC1 qC2 fC2 qC3 fC3 qC4 fC4 qC5 fC5 qC6 fC6 qC7 fC7 qC8 fC8 zC qQ0 fQ0 qQ1 fQ1 qQ2 fQ2 zQ
  have HC := Lib.hid (HC.out.below hb)
  have HQ := Lib.hid (HQ.out.below hb)
  have HB := Lib.hid (below_after hb HB.out)
  clear hb
  obtain ⟨⟨qC0, qC1, qC2, qC3, qC4, qC5, qC6, qC7, qC8⟩, ⟨fC0, fC1, fC2, fC3, fC4, fC5, fC6, fC7, fC8⟩, zC⟩ := HC.out
  obtain ⟨⟨qQ0, qQ1, qQ2⟩, ⟨fQ0, fQ1, fQ2⟩, zQ⟩ := HQ.out
  have hb := HB.out
  go_wp2_with fail
  go_at_call 49
  refine (demandSpots_1n a0 a1 a2 _ _ _ _ (HES.out.below (Below.alloc hb hb.size _)) HKA.out (by simp) (by go_cell) (by go_cell) (by go_cell)).mono ?_
  rintro e w22 ⟨rfl, hba⟩
  have hb := al_below hba
  clear hba
  clear qC0 fC0 qC1 fC1 qC2 fC2 qC3 fC3 qC4 fC4 qC5 fC5 qC6 fC6 qC7 fC7 qC8 fC8 zC qQ0 fQ0 qQ1 fQ1 qQ2 fQ2 zQ
  have HC := Lib.hid (HC.out.below hb)
  have HQ := Lib.hid (HQ.out.below hb)
  have HB := Lib.hid (below_after hb HB.out)
  clear hb
  go_wp2_with fail
  exact ⟨rfl, rfl, HB.out⟩
set_option maxHeartbeats 1600000 in
theorem cl_CoordinatesIn_ok (GC GQ : Nat) (c0 c1 c2 c3 c4 c5 c6 c7 c8 a0 a1 a2 : Int)  (w : World) (hk : isCo c0 c1 c2 c3 c4 c5 c6 c7 c8 = true) (hka : isSp a0 a1 a2 = true) (hC : Bk9 w GC c0 c1 c2 c3 c4 c5 c6 c7 c8) (hQ : Bk3 w GQ a0 a1 a2) :
    Calls Tryd.prog 60 #[.pointer (some ⟨GC, 0, none⟩), .pointer (some ⟨GQ, 0, none⟩)] w fun e w' => ∃ v, e = .returned (.tuple #[v, .int .i64 0]) ∧ OwnE 2 w.heap.size w' v (ciL c0 c1 c2 c3 c4 c5 c6 c7 c8 a0 a1 a2) ∧ Below w.heap.size w w' := by
  have HB := Lib.hid (Below.refl w.heap.size w)
  have HC := Lib.hid hC
  have HQ := Lib.hid hQ
  clear hC hQ
  have HK := Lib.hid hk
  have HKA := Lib.hid hka
  clear hk hka
  obtain ⟨n0, e0⟩ : ∃ n, sgV (detV c0 c1 c2 c3 c4 c5 c6 c7 c8) * (crX c3 c4 c5 c6 c7 c8) = n := ⟨_, rfl⟩
  obtain ⟨n1, e1⟩ : ∃ n, sgV (detV c0 c1 c2 c3 c4 c5 c6 c7 c8) * (crY c3 c4 c5 c6 c7 c8) = n := ⟨_, rfl⟩
  obtain ⟨n2, e2⟩ : ∃ n, sgV (detV c0 c1 c2 c3 c4 c5 c6 c7 c8) * (crZ c3 c4 c5 c6 c7 c8) = n := ⟨_, rfl⟩
  obtain ⟨n3, e3⟩ : ∃ n, sgV (detV c0 c1 c2 c3 c4 c5 c6 c7 c8) * (crX c6 c7 c8 c0 c1 c2) = n := ⟨_, rfl⟩
  obtain ⟨n4, e4⟩ : ∃ n, sgV (detV c0 c1 c2 c3 c4 c5 c6 c7 c8) * (crY c6 c7 c8 c0 c1 c2) = n := ⟨_, rfl⟩
  obtain ⟨n5, e5⟩ : ∃ n, sgV (detV c0 c1 c2 c3 c4 c5 c6 c7 c8) * (crZ c6 c7 c8 c0 c1 c2) = n := ⟨_, rfl⟩
  obtain ⟨n6, e6⟩ : ∃ n, sgV (detV c0 c1 c2 c3 c4 c5 c6 c7 c8) * (crX c0 c1 c2 c3 c4 c5) = n := ⟨_, rfl⟩
  obtain ⟨n7, e7⟩ : ∃ n, sgV (detV c0 c1 c2 c3 c4 c5 c6 c7 c8) * (crY c0 c1 c2 c3 c4 c5) = n := ⟨_, rfl⟩
  obtain ⟨n8, e8⟩ : ∃ n, sgV (detV c0 c1 c2 c3 c4 c5 c6 c7 c8) * (crZ c0 c1 c2 c3 c4 c5) = n := ⟨_, rfl⟩
  have HNO : Hid (∀ w, Calls Tryd.prog 62 #[.agg #[.int .i64 c0, .int .i64 c1, .int .i64 c2, .int .i64 c3, .int .i64 c4, .int .i64 c5, .int .i64 c6, .int .i64 c7, .int .i64 c8]] w fun e w' => (∃ g, e = .returned (.slice (some ⟨g, 0, none⟩) 3 3) ∧ Bk9 w' g n0 n1 n2 n3 n4 n5 n6 n7 n8 ∧ w.heap.size ≤ g) ∧ Below w.heap.size w w') := fun w => normalsOf_ex c0 c1 c2 c3 c4 c5 c6 c7 c8 n0 n1 n2 n3 n4 n5 n6 n7 n8 w ((isCo_parts HK.out).1.up (by omega)) ((isCo_parts HK.out).2.1.up (by omega)) ((isCo_parts HK.out).2.2.1.up (by omega)) e0 e1 e2 e3 e4 e5 e6 e7 e8
  have HW0 : Hid (W3 1000000 n0 n1 n2) := by
    have hs : Wi 1 (sgV (detV c0 c1 c2 c3 c4 c5 c6 c7 c8)) := by rcases sg_cases (detV c0 c1 c2 c3 c4 c5 c6 c7 c8) with ⟨h, _⟩ | ⟨h, _⟩ <;> rw [h] <;> unfold Wi <;> omega
    have hc := (isCo_parts HK.out).2.1.cr (isCo_parts HK.out).2.2.1
    show W3 1000000 n0 n1 n2
    rw [← e0, ← e1, ← e2]
    exact ⟨(hs.mul hc.1).up (by omega), (hs.mul hc.2.1).up (by omega), (hs.mul hc.2.2).up (by omega)⟩
  have HCO0 : Hid (co0 c0 c1 c2 c3 c4 c5 c6 c7 c8 a0 a1 a2 = dotV n0 n1 n2 a0 a1 a2) := by show _ = _; rw [co_dot0, e0, e1, e2]
  have HW1 : Hid (W3 1000000 n3 n4 n5) := by
    have hs : Wi 1 (sgV (detV c0 c1 c2 c3 c4 c5 c6 c7 c8)) := by rcases sg_cases (detV c0 c1 c2 c3 c4 c5 c6 c7 c8) with ⟨h, _⟩ | ⟨h, _⟩ <;> rw [h] <;> unfold Wi <;> omega
    have hc := (isCo_parts HK.out).2.2.1.cr (isCo_parts HK.out).1
    show W3 1000000 n3 n4 n5
    rw [← e3, ← e4, ← e5]
    exact ⟨(hs.mul hc.1).up (by omega), (hs.mul hc.2.1).up (by omega), (hs.mul hc.2.2).up (by omega)⟩
  have HCO1 : Hid (co1 c0 c1 c2 c3 c4 c5 c6 c7 c8 a0 a1 a2 = dotV n3 n4 n5 a0 a1 a2) := by show _ = _; rw [co_dot1, e3, e4, e5]
  have HW2 : Hid (W3 1000000 n6 n7 n8) := by
    have hs : Wi 1 (sgV (detV c0 c1 c2 c3 c4 c5 c6 c7 c8)) := by rcases sg_cases (detV c0 c1 c2 c3 c4 c5 c6 c7 c8) with ⟨h, _⟩ | ⟨h, _⟩ <;> rw [h] <;> unfold Wi <;> omega
    have hc := (isCo_parts HK.out).1.cr (isCo_parts HK.out).2.1
    show W3 1000000 n6 n7 n8
    rw [← e6, ← e7, ← e8]
    exact ⟨(hs.mul hc.1).up (by omega), (hs.mul hc.2.1).up (by omega), (hs.mul hc.2.2).up (by omega)⟩
  have HCO2 : Hid (co2 c0 c1 c2 c3 c4 c5 c6 c7 c8 a0 a1 a2 = dotV n6 n7 n8 a0 a1 a2) := by show _ = _; rw [co_dot2, e6, e7, e8]
  clear e0 e1 e2 e3 e4 e5 e6 e7 e8
  have HP0 : Hid (∀ w, Calls Tryd.prog 63 #[.agg #[.int .i64 n0, .int .i64 n1, .int .i64 n2], .agg #[.int .i64 a0, .int .i64 a1, .int .i64 a2]] w fun e w' => e = .returned (.int .i64 (dotV n0 n1 n2 a0 a1 a2)) ∧ Below w.heap.size w w') := fun w => productOf_any n0 n1 n2 a0 a1 a2 w HW0.out ((isSp_W3 HKA.out).up (by omega))
  have HP1 : Hid (∀ w, Calls Tryd.prog 63 #[.agg #[.int .i64 n3, .int .i64 n4, .int .i64 n5], .agg #[.int .i64 a0, .int .i64 a1, .int .i64 a2]] w fun e w' => e = .returned (.int .i64 (dotV n3 n4 n5 a0 a1 a2)) ∧ Below w.heap.size w w') := fun w => productOf_any n3 n4 n5 a0 a1 a2 w HW1.out ((isSp_W3 HKA.out).up (by omega))
  have HP2 : Hid (∀ w, Calls Tryd.prog 63 #[.agg #[.int .i64 n6, .int .i64 n7, .int .i64 n8], .agg #[.int .i64 a0, .int .i64 a1, .int .i64 a2]] w fun e w' => e = .returned (.int .i64 (dotV n6 n7 n8 a0 a1 a2)) ∧ Below w.heap.size w w') := fun w => productOf_any n6 n7 n8 a0 a1 a2 w HW2.out ((isSp_W3 HKA.out).up (by omega))
  have HL : Hid (ciL c0 c1 c2 c3 c4 c5 c6 c7 c8 a0 a1 a2 = [dotV n0 n1 n2 a0 a1 a2, dotV n3 n4 n5 a0 a1 a2, dotV n6 n7 n8 a0 a1 a2]) := by show _ = _; unfold ciL bls ciO; rw [HK.out, HKA.out, HCO0.out, HCO1.out, HCO2.out]; rfl
  clear HCO0 HCO1 HCO2
  generalize dotV n0 n1 n2 a0 a1 a2 = P0 at *
  generalize dotV n3 n4 n5 a0 a1 a2 = P1 at *
  generalize dotV n6 n7 n8 a0 a1 a2 = P2 at *
  go_enter Tryd.func60, Tryd.ntmps60
  obtain ⟨⟨qC0, qC1, qC2, qC3, qC4, qC5, qC6, qC7, qC8⟩, ⟨fC0, fC1, fC2, fC3, fC4, fC5, fC6, fC7, fC8⟩, zC⟩ := HC.out
  obtain ⟨⟨qQ0, qQ1, qQ2⟩, ⟨fQ0, fQ1, fQ2⟩, zQ⟩ := HQ.out
  go_wp2_with fail
  go_at_call 61
  refine (demandCone_yes c0 c1 c2 c3 c4 c5 c6 c7 c8 _ HK.out).mono ?_
  rintro e w21 ⟨rfl, hb⟩
  clear qC0 fC0 qC1 fC1 qC2 fC2 qC3 fC3 qC4 fC4 qC5 fC5 qC6 fC6 qC7 fC7 qC8 fC8 zC qQ0 fQ0 qQ1 fQ1 qQ2 fQ2 zQ
  have HC := Lib.hid (HC.out.below hb)
  have HQ := Lib.hid (HQ.out.below hb)
  have HB := Lib.hid (below_after hb HB.out)
  clear hb
  obtain ⟨⟨qC0, qC1, qC2, qC3, qC4, qC5, qC6, qC7, qC8⟩, ⟨fC0, fC1, fC2, fC3, fC4, fC5, fC6, fC7, fC8⟩, zC⟩ := HC.out
  obtain ⟨⟨qQ0, qQ1, qQ2⟩, ⟨fQ0, fQ1, fQ2⟩, zQ⟩ := HQ.out
  go_wp2_with fail
  go_at_call 49
  refine (demandSpots_1y a0 a1 a2 _ _ _ HKA.out (by simp) (by go_cell) (by go_cell) (by go_cell)).mono ?_
  rintro e w22 ⟨rfl, hba⟩
  have hb := al_below hba
  clear hba
  clear qC0 fC0 qC1 fC1 qC2 fC2 qC3 fC3 qC4 fC4 qC5 fC5 qC6 fC6 qC7 fC7 qC8 fC8 zC qQ0 fQ0 qQ1 fQ1 qQ2 fQ2 zQ
  have HC := Lib.hid (HC.out.below hb)
  have HQ := Lib.hid (HQ.out.below hb)
  have HB := Lib.hid (below_after hb HB.out)
  clear hb
  obtain ⟨⟨qC0, qC1, qC2, qC3, qC4, qC5, qC6, qC7, qC8⟩, ⟨fC0, fC1, fC2, fC3, fC4, fC5, fC6, fC7, fC8⟩, zC⟩ := HC.out
  obtain ⟨⟨qQ0, qQ1, qQ2⟩, ⟨fQ0, fQ1, fQ2⟩, zQ⟩ := HQ.out
  go_upto_region 4 with fail
  clear qC0 fC0 qC1 fC1 qC2 fC2 qC3 fC3 qC4 fC4 qC5 fC5 qC6 fC6 qC7 fC7 qC8 fC8 zC qQ0 fQ0 qQ1 fQ1 qQ2 fQ2 zQ
  obtain ⟨⟨qC0, qC1, qC2, qC3, qC4, qC5, qC6, qC7, qC8⟩, ⟨fC0, fC1, fC2, fC3, fC4, fC5, fC6, fC7, fC8⟩, zC⟩ := HC.out
  obtain ⟨⟨qQ0, qQ1, qQ2⟩, ⟨fQ0, fQ1, fQ2⟩, zQ⟩ := HQ.out
  go_wp2_with fail
  go_at_call 62
  refine (HNO.out _).mono ?_
  rintro e w23 ⟨⟨GN, rfl, hN, hle⟩, hb⟩
  clear qC0 fC0 qC1 fC1 qC2 fC2 qC3 fC3 qC4 fC4 qC5 fC5 qC6 fC6 qC7 fC7 qC8 fC8 zC qQ0 fQ0 qQ1 fQ1 qQ2 fQ2 zQ
  have HC := Lib.hid (HC.out.below hb)
  have HQ := Lib.hid (HQ.out.below hb)
  have HB := Lib.hid (below_after hb HB.out)
  clear hb
  have HN := Lib.hid hN
  clear hN hle HC
  have HBW := HB
  clear HB
  obtain ⟨w, rfl⟩ : ∃ w, w = w23 := ⟨_, rfl⟩
  have HNQ : Hid (∀ W, Below w.heap.size w W → Bk9 W GN n0 n1 n2 n3 n4 n5 n6 n7 n8 ∧ Bk3 W GQ a0 a1 a2) := fun W hW => ⟨HN.out.below hW, HQ.out.below hW⟩
  obtain ⟨⟨qN0, qN1, qN2, qN3, qN4, qN5, qN6, qN7, qN8⟩, ⟨fN0, fN1, fN2, fN3, fN4, fN5, fN6, fN7, fN8⟩, zN⟩ := HN.out
  go_wp2_with fail
  clear qN0 fN0 qN1 fN1 qN2 fN2 qN3 fN3 qN4 fN4 qN5 fN5 qN6 fN6 qN7 fN7 qN8 fN8 zN HN HQ
  go_loopw [4, 15] (fun v i wr => ∃ (j : Nat) (va : Option Addr) (vc : Nat), j ≤ 3 ∧ v = .slice va j vc ∧ i = .int .i64 j ∧ OwnI w.heap.size wr (.slice va j vc) ([P0, P1, P2].take j) ∧ Below w.heap.size w wr) (fun _ i _ => 3 - (intOf i).toNat)
  case atStart => exact ⟨0, _, _, by omega, rfl, rfl, World.ownsRow_nil _ _ _ _, Below.refl _ _⟩
  case round =>
    obtain ⟨j, va, vc, hj, rfl, rfl, hown, hbel⟩ := hrel
    have HO0 := Lib.hid hown
    have HB := Lib.hid hbel
    have HN : Hid (Bk9 wr GN n0 n1 n2 n3 n4 n5 n6 n7 n8) := (HNQ.out wr hbel).1
    have HQ : Hid (Bk3 wr GQ a0 a1 a2) := (HNQ.out wr hbel).2
    clear hown hbel
    rcases (show j = 0 ∨ j = 1 ∨ j = 2 ∨ j = 3 by omega) with rfl | rfl | rfl | rfl
    · have HO : Hid (OwnI w.heap.size wr (.slice va 0 vc) []) := HO0.out
      clear HO0
      rw [show ((0 : Nat) : Int) = 0 from rfl]
      obtain ⟨⟨qN0, qN1, qN2, qN3, qN4, qN5, qN6, qN7, qN8⟩, ⟨fN0, fN1, fN2, fN3, fN4, fN5, fN6, fN7, fN8⟩, zN⟩ := HN.out
      obtain ⟨⟨qQ0, qQ1, qQ2⟩, ⟨fQ0, fQ1, fQ2⟩, zQ⟩ := HQ.out
      go_upto_region 7 with fail
      obtain ⟨GE, hGE⟩ : ∃ g, wr.heap.size = g := ⟨_, rfl⟩
      obtain ⟨w41, hw41⟩ : ∃ wx, wx = wr.alloc (.cells #[.int .i64 n0, .int .i64 n1, .int .i64 n2] 26) := ⟨_, rfl⟩
      rw [← hw41, hGE]
      have HE : Hid (Bk3 w41 GE n0 n1 n2) := by rw [hw41, ← hGE]; exact bk3_new wr n0 n1 n2 _
      have le_E : w.heap.size ≤ GE := by rw [← hGE]; exact HB.out.size
      have ne_E_N : GE ≠ GN := by have := HN.out.2.2; omega
      have ne_N_E : GN ≠ GE := Ne.symm ne_E_N
      have ne_E_Q : GE ≠ GQ := by have := HQ.out.2.2; omega
      have ne_Q_E : GQ ≠ GE := Ne.symm ne_E_Q
      clear qN0 fN0 qN1 fN1 qN2 fN2 qN3 fN3 qN4 fN4 qN5 fN5 qN6 fN6 qN7 fN7 qN8 fN8 zN qQ0 fQ0 qQ1 fQ1 qQ2 fQ2 zQ
      have HN := Lib.hid (HN.out.below ((Below.refl _ _).alloc (Nat.le_refl _) (.cells #[.int .i64 n0, .int .i64 n1, .int .i64 n2] 26)))
      have HQ := Lib.hid (HQ.out.below ((Below.refl _ _).alloc (Nat.le_refl _) (.cells #[.int .i64 n0, .int .i64 n1, .int .i64 n2] 26)))
      have HO := Lib.hid (HO.out.below ((Below.refl _ _).alloc (Nat.le_refl _) (.cells #[.int .i64 n0, .int .i64 n1, .int .i64 n2] 26)))
      have HB := Lib.hid (Below.alloc HB.out HB.out.size (.cells #[.int .i64 n0, .int .i64 n1, .int .i64 n2] 26))
      rw [← hw41] at HN HQ HO HB
      clear hw41 hGE
      obtain ⟨⟨qN0, qN1, qN2, qN3, qN4, qN5, qN6, qN7, qN8⟩, ⟨fN0, fN1, fN2, fN3, fN4, fN5, fN6, fN7, fN8⟩, zN⟩ := HN.out
      obtain ⟨⟨qQ0, qQ1, qQ2⟩, ⟨fQ0, fQ1, fQ2⟩, zQ⟩ := HQ.out
      obtain ⟨⟨qE0, qE1, qE2⟩, ⟨fE0, fE1, fE2⟩, zE⟩ := HE.out
      go_wp2_with fail
      go_at_call 63
      refine (HP0.out _).mono ?_
      rintro e w42 ⟨rfl, hb⟩
      clear qN0 fN0 qN1 fN1 qN2 fN2 qN3 fN3 qN4 fN4 qN5 fN5 qN6 fN6 qN7 fN7 qN8 fN8 zN qQ0 fQ0 qQ1 fQ1 qQ2 fQ2 zQ qE0 fE0 qE1 fE1 qE2 fE2 zE
      have HN := Lib.hid (HN.out.below hb)
      have HQ := Lib.hid (HQ.out.below hb)
      have HE := Lib.hid (HE.out.below hb)
      have HO := Lib.hid (HO.out.below hb)
      have HB := Lib.hid (below_after hb HB.out)
      clear hb
      obtain ⟨⟨qN0, qN1, qN2, qN3, qN4, qN5, qN6, qN7, qN8⟩, ⟨fN0, fN1, fN2, fN3, fN4, fN5, fN6, fN7, fN8⟩, zN⟩ := HN.out
      obtain ⟨⟨qQ0, qQ1, qQ2⟩, ⟨fQ0, fQ1, fQ2⟩, zQ⟩ := HQ.out
      obtain ⟨⟨qE0, qE1, qE2⟩, ⟨fE0, fE1, fE2⟩, zE⟩ := HE.out
      have HO3 := Lib.hid (World.ownsRow.alloc HO.out (.cells #[.int .i64 P0] 2))
      have hbz : Below w.heap.size w (w42.alloc (.cells #[.int .i64 P0] 2)) := HB.out.alloc HB.out.size _
      go_wp2_with (at_builtin; refine wpList_app_own w rfl _ _ rfl (v := .slice va 0 vc) (xs := []) (ys := [P0]) HO3.out ?cc0 hbz rfl rfl (by simp) ?_)
      case cc0 => intro j hj; have : j = 0 := (by simpa using hj); subst this; go_cell
      clear qN0 fN0 qN1 fN1 qN2 fN2 qN3 fN3 qN4 fN4 qN5 fN5 qN6 fN6 qN7 fN7 qN8 fN8 zN qQ0 fQ0 qQ1 fQ1 qQ2 fQ2 zQ qE0 fE0 qE1 fE1 qE2 fE2 zE
      intro v' w' ho hb
      have ho' : OwnI w.heap.size w' v' [P0] := ho
      obtain ⟨va', vc', rfl, _⟩ := own_view ho'
      have HO4 := Lib.hid ho'
      clear ho ho' hbz HO HO3 HN HQ HE HB
      go_wp2
      go_roundw
      case rel => exact ⟨0 + 1, va', vc', by omega, rfl, by go_num, HO4.out, hb⟩
      case measure => simp [intOf]
    · have HO : Hid (OwnI w.heap.size wr (.slice va 1 vc) [P0]) := HO0.out
      clear HO0
      rw [show ((1 : Nat) : Int) = 1 from rfl]
      obtain ⟨⟨qN0, qN1, qN2, qN3, qN4, qN5, qN6, qN7, qN8⟩, ⟨fN0, fN1, fN2, fN3, fN4, fN5, fN6, fN7, fN8⟩, zN⟩ := HN.out
      obtain ⟨⟨qQ0, qQ1, qQ2⟩, ⟨fQ0, fQ1, fQ2⟩, zQ⟩ := HQ.out
      go_upto_region 7 with fail
      obtain ⟨GE, hGE⟩ : ∃ g, wr.heap.size = g := ⟨_, rfl⟩
      obtain ⟨w61, hw61⟩ : ∃ wx, wx = wr.alloc (.cells #[.int .i64 n3, .int .i64 n4, .int .i64 n5] 26) := ⟨_, rfl⟩
      rw [← hw61, hGE]
      have HE : Hid (Bk3 w61 GE n3 n4 n5) := by rw [hw61, ← hGE]; exact bk3_new wr n3 n4 n5 _
      have le_E : w.heap.size ≤ GE := by rw [← hGE]; exact HB.out.size
      have ne_E_N : GE ≠ GN := by have := HN.out.2.2; omega
      have ne_N_E : GN ≠ GE := Ne.symm ne_E_N
      have ne_E_Q : GE ≠ GQ := by have := HQ.out.2.2; omega
      have ne_Q_E : GQ ≠ GE := Ne.symm ne_E_Q
      clear qN0 fN0 qN1 fN1 qN2 fN2 qN3 fN3 qN4 fN4 qN5 fN5 qN6 fN6 qN7 fN7 qN8 fN8 zN qQ0 fQ0 qQ1 fQ1 qQ2 fQ2 zQ
      have HN := Lib.hid (HN.out.below ((Below.refl _ _).alloc (Nat.le_refl _) (.cells #[.int .i64 n3, .int .i64 n4, .int .i64 n5] 26)))
      have HQ := Lib.hid (HQ.out.below ((Below.refl _ _).alloc (Nat.le_refl _) (.cells #[.int .i64 n3, .int .i64 n4, .int .i64 n5] 26)))
      have HO := Lib.hid (HO.out.below ((Below.refl _ _).alloc (Nat.le_refl _) (.cells #[.int .i64 n3, .int .i64 n4, .int .i64 n5] 26)))
      have HB := Lib.hid (Below.alloc HB.out HB.out.size (.cells #[.int .i64 n3, .int .i64 n4, .int .i64 n5] 26))
      rw [← hw61] at HN HQ HO HB
      clear hw61 hGE
      obtain ⟨⟨qN0, qN1, qN2, qN3, qN4, qN5, qN6, qN7, qN8⟩, ⟨fN0, fN1, fN2, fN3, fN4, fN5, fN6, fN7, fN8⟩, zN⟩ := HN.out
      obtain ⟨⟨qQ0, qQ1, qQ2⟩, ⟨fQ0, fQ1, fQ2⟩, zQ⟩ := HQ.out
      obtain ⟨⟨qE0, qE1, qE2⟩, ⟨fE0, fE1, fE2⟩, zE⟩ := HE.out
      go_wp2_with fail
      go_at_call 63
      refine (HP1.out _).mono ?_
      rintro e w62 ⟨rfl, hb⟩
      clear qN0 fN0 qN1 fN1 qN2 fN2 qN3 fN3 qN4 fN4 qN5 fN5 qN6 fN6 qN7 fN7 qN8 fN8 zN qQ0 fQ0 qQ1 fQ1 qQ2 fQ2 zQ qE0 fE0 qE1 fE1 qE2 fE2 zE
      have HN := Lib.hid (HN.out.below hb)
      have HQ := Lib.hid (HQ.out.below hb)
      have HE := Lib.hid (HE.out.below hb)
      have HO := Lib.hid (HO.out.below hb)
      have HB := Lib.hid (below_after hb HB.out)
      clear hb
      obtain ⟨⟨qN0, qN1, qN2, qN3, qN4, qN5, qN6, qN7, qN8⟩, ⟨fN0, fN1, fN2, fN3, fN4, fN5, fN6, fN7, fN8⟩, zN⟩ := HN.out
      obtain ⟨⟨qQ0, qQ1, qQ2⟩, ⟨fQ0, fQ1, fQ2⟩, zQ⟩ := HQ.out
      obtain ⟨⟨qE0, qE1, qE2⟩, ⟨fE0, fE1, fE2⟩, zE⟩ := HE.out
      have HO3 := Lib.hid (World.ownsRow.alloc HO.out (.cells #[.int .i64 P1] 2))
      have hbz : Below w.heap.size w (w62.alloc (.cells #[.int .i64 P1] 2)) := HB.out.alloc HB.out.size _
      go_wp2_with (at_builtin; refine wpList_app_own w rfl _ _ rfl (v := .slice va 1 vc) (xs := [P0]) (ys := [P1]) HO3.out ?cc1 hbz rfl rfl (by simp) ?_)
      case cc1 => intro j hj; have : j = 0 := (by simpa using hj); subst this; go_cell
      clear qN0 fN0 qN1 fN1 qN2 fN2 qN3 fN3 qN4 fN4 qN5 fN5 qN6 fN6 qN7 fN7 qN8 fN8 zN qQ0 fQ0 qQ1 fQ1 qQ2 fQ2 zQ qE0 fE0 qE1 fE1 qE2 fE2 zE
      intro v' w' ho hb
      have ho' : OwnI w.heap.size w' v' [P0, P1] := ho
      obtain ⟨va', vc', rfl, _⟩ := own_view ho'
      have HO4 := Lib.hid ho'
      clear ho ho' hbz HO HO3 HN HQ HE HB
      go_wp2
      go_roundw
      case rel => exact ⟨1 + 1, va', vc', by omega, rfl, by go_num, HO4.out, hb⟩
      case measure => simp [intOf]
    · have HO : Hid (OwnI w.heap.size wr (.slice va 2 vc) [P0, P1]) := HO0.out
      clear HO0
      rw [show ((2 : Nat) : Int) = 2 from rfl]
      obtain ⟨⟨qN0, qN1, qN2, qN3, qN4, qN5, qN6, qN7, qN8⟩, ⟨fN0, fN1, fN2, fN3, fN4, fN5, fN6, fN7, fN8⟩, zN⟩ := HN.out
      obtain ⟨⟨qQ0, qQ1, qQ2⟩, ⟨fQ0, fQ1, fQ2⟩, zQ⟩ := HQ.out
      go_upto_region 7 with fail
      obtain ⟨GE, hGE⟩ : ∃ g, wr.heap.size = g := ⟨_, rfl⟩
      obtain ⟨w81, hw81⟩ : ∃ wx, wx = wr.alloc (.cells #[.int .i64 n6, .int .i64 n7, .int .i64 n8] 26) := ⟨_, rfl⟩
      rw [← hw81, hGE]
      have HE : Hid (Bk3 w81 GE n6 n7 n8) := by rw [hw81, ← hGE]; exact bk3_new wr n6 n7 n8 _
      have le_E : w.heap.size ≤ GE := by rw [← hGE]; exact HB.out.size
      have ne_E_N : GE ≠ GN := by have := HN.out.2.2; omega
      have ne_N_E : GN ≠ GE := Ne.symm ne_E_N
      have ne_E_Q : GE ≠ GQ := by have := HQ.out.2.2; omega
      have ne_Q_E : GQ ≠ GE := Ne.symm ne_E_Q
      clear qN0 fN0 qN1 fN1 qN2 fN2 qN3 fN3 qN4 fN4 qN5 fN5 qN6 fN6 qN7 fN7 qN8 fN8 zN qQ0 fQ0 qQ1 fQ1 qQ2 fQ2 zQ
      have HN := Lib.hid (HN.out.below ((Below.refl _ _).alloc (Nat.le_refl _) (.cells #[.int .i64 n6, .int .i64 n7, .int .i64 n8] 26)))
      have HQ := Lib.hid (HQ.out.below ((Below.refl _ _).alloc (Nat.le_refl _) (.cells #[.int .i64 n6, .int .i64 n7, .int .i64 n8] 26)))
      have HO := Lib.hid (HO.out.below ((Below.refl _ _).alloc (Nat.le_refl _) (.cells #[.int .i64 n6, .int .i64 n7, .int .i64 n8] 26)))
      have HB := Lib.hid (Below.alloc HB.out HB.out.size (.cells #[.int .i64 n6, .int .i64 n7, .int .i64 n8] 26))
      rw [← hw81] at HN HQ HO HB
      clear hw81 hGE
      obtain ⟨⟨qN0, qN1, qN2, qN3, qN4, qN5, qN6, qN7, qN8⟩, ⟨fN0, fN1, fN2, fN3, fN4, fN5, fN6, fN7, fN8⟩, zN⟩ := HN.out
      obtain ⟨⟨qQ0, qQ1, qQ2⟩, ⟨fQ0, fQ1, fQ2⟩, zQ⟩ := HQ.out
      obtain ⟨⟨qE0, qE1, qE2⟩, ⟨fE0, fE1, fE2⟩, zE⟩ := HE.out
      go_wp2_with fail
      go_at_call 63
      refine (HP2.out _).mono ?_
      rintro e w82 ⟨rfl, hb⟩
      clear qN0 fN0 qN1 fN1 qN2 fN2 qN3 fN3 qN4 fN4 qN5 fN5 qN6 fN6 qN7 fN7 qN8 fN8 zN qQ0 fQ0 qQ1 fQ1 qQ2 fQ2 zQ qE0 fE0 qE1 fE1 qE2 fE2 zE
      have HN := Lib.hid (HN.out.below hb)
      have HQ := Lib.hid (HQ.out.below hb)
      have HE := Lib.hid (HE.out.below hb)
      have HO := Lib.hid (HO.out.below hb)
      have HB := Lib.hid (below_after hb HB.out)
      clear hb
      obtain ⟨⟨qN0, qN1, qN2, qN3, qN4, qN5, qN6, qN7, qN8⟩, ⟨fN0, fN1, fN2, fN3, fN4, fN5, fN6, fN7, fN8⟩, zN⟩ := HN.out
      obtain ⟨⟨qQ0, qQ1, qQ2⟩, ⟨fQ0, fQ1, fQ2⟩, zQ⟩ := HQ.out
      obtain ⟨⟨qE0, qE1, qE2⟩, ⟨fE0, fE1, fE2⟩, zE⟩ := HE.out
      have HO3 := Lib.hid (World.ownsRow.alloc HO.out (.cells #[.int .i64 P2] 2))
      have hbz : Below w.heap.size w (w82.alloc (.cells #[.int .i64 P2] 2)) := HB.out.alloc HB.out.size _
      go_wp2_with (at_builtin; refine wpList_app_own w rfl _ _ rfl (v := .slice va 2 vc) (xs := [P0, P1]) (ys := [P2]) HO3.out ?cc2 hbz rfl rfl (by simp) ?_)
      case cc2 => intro j hj; have : j = 0 := (by simpa using hj); subst this; go_cell
      clear qN0 fN0 qN1 fN1 qN2 fN2 qN3 fN3 qN4 fN4 qN5 fN5 qN6 fN6 qN7 fN7 qN8 fN8 zN qQ0 fQ0 qQ1 fQ1 qQ2 fQ2 zQ qE0 fE0 qE1 fE1 qE2 fE2 zE
      intro v' w' ho hb
      have ho' : OwnI w.heap.size w' v' [P0, P1, P2] := ho
      obtain ⟨va', vc', rfl, _⟩ := own_view ho'
      have HO4 := Lib.hid ho'
      clear ho ho' hbz HO HO3 HN HQ HE HB
      go_wp2
      go_roundw
      case rel => exact ⟨2 + 1, va', vc', by omega, rfl, by go_num, HO4.out, hb⟩
      case measure => simp [intOf]
    · have HO : Hid (OwnI w.heap.size wr (.slice va 3 vc) [P0, P1, P2]) := HO0.out
      clear HO0
      rw [show ((3 : Nat) : Int) = 3 from rfl]
      go_wp2_with fail
      refine bodyPost_ret (v := .tuple #[.slice va 3 vc, .int .i64 0]) (by simp (maxDischargeDepth := 8) [results, Tryd.results60, go_sem, *]) rfl ?_
      exact ⟨_, rfl, by rw [HL.out]; exact own_up HO.out HBW.out.size, below_after HB.out HBW.out⟩
set_option maxHeartbeats 1600000 in
theorem impl_CoordinatesIn_any (c0 c1 c2 c3 c4 c5 c6 c7 c8 a0 a1 a2 : Int) (eF eS eC : Addr) (w : World) (hF : EA w 3 eF) (hS : EA w 0 eS) (hC : EA w 1 eC) (nS : eS ≠ eF) (nC : eC ≠ eF) :
    Calls Tryd.prog 26 #[.agg #[.int .i64 c0, .int .i64 c1, .int .i64 c2, .int .i64 c3, .int .i64 c4, .int .i64 c5, .int .i64 c6, .int .i64 c7, .int .i64 c8], .agg #[.int .i64 a0, .int .i64 a1, .int .i64 a2]] w fun e w' => ∃ v, e = .returned (.tuple #[v, .int .i64 (bok (ciO c0 c1 c2 c3 c4 c5 c6 c7 c8 a0 a1 a2))]) ∧ OwnE 2 w.heap.size w' v (ciL c0 c1 c2 c3 c4 c5 c6 c7 c8 a0 a1 a2) ∧ Below w.heap.size w w' := by
  have hmf : ∀ (fn : Fn) (first cap : Array Value) (w : World), (Instr.makeFunc fn first cap).run Tryd.prog w = .ok (.func fn first cap) w := fun _ _ _ _ => rfl
  have HEF := Lib.hid hF
  have HES := Lib.hid hS
  have HEC := Lib.hid hC
  have HNS := Lib.hid nS
  have HNC := Lib.hid nC
  clear hF hS hC nS nC
  cases hk : isCo c0 c1 c2 c3 c4 c5 c6 c7 c8
  · have HK := Lib.hid hk
    clear hk
    obtain ⟨GC, hG⟩ : ∃ G, w.heap.size = G := ⟨_, rfl⟩
    have HG := Lib.hid hG
    go_enter Tryd.func26, Tryd.ntmps26
    go_upto_region 1 with fail
    obtain ⟨w0, hw0⟩ : ∃ w0, w0 = ((w.alloc (.cells #[.int .i64 c0, .int .i64 c1, .int .i64 c2, .int .i64 c3, .int .i64 c4, .int .i64 c5, .int .i64 c6, .int .i64 c7, .int .i64 c8] 39)).alloc (.cells #[.int .i64 a0, .int .i64 a1, .int .i64 a2] 26)) := ⟨_, rfl⟩
    rw [← hw0]
    have HC : Hid (Bk9 w0 GC c0 c1 c2 c3 c4 c5 c6 c7 c8) := by
      have h := (bk9_new w c0 c1 c2 c3 c4 c5 c6 c7 c8 39).below (W' := ((w.alloc (.cells #[.int .i64 c0, .int .i64 c1, .int .i64 c2, .int .i64 c3, .int .i64 c4, .int .i64 c5, .int .i64 c6, .int .i64 c7, .int .i64 c8] 39)).alloc (.cells #[.int .i64 a0, .int .i64 a1, .int .i64 a2] 26))) (by (repeat' (first | (with_reducible exact Below.refl _ _) | (with_reducible refine Below.alloc ?_ ?_ _) | (with_reducible refine Below.setCell ?_ ?_ _) | (with_reducible refine Below.drew ?_) | (with_reducible refine below_drewN ?_ _) | (with_reducible assumption) | (with_reducible refine below_after (by with_reducible assumption) ?_) | go_size)))
      (try simp only [World.size_alloc] at h)
      rw [hG] at h
      rw [hw0]; exact h
    have HQ : Hid (Bk3 w0 (GC + 1) a0 a1 a2) := by
      have h := (bk3_new (w.alloc (.cells #[.int .i64 c0, .int .i64 c1, .int .i64 c2, .int .i64 c3, .int .i64 c4, .int .i64 c5, .int .i64 c6, .int .i64 c7, .int .i64 c8] 39)) a0 a1 a2 26).below (W' := ((w.alloc (.cells #[.int .i64 c0, .int .i64 c1, .int .i64 c2, .int .i64 c3, .int .i64 c4, .int .i64 c5, .int .i64 c6, .int .i64 c7, .int .i64 c8] 39)).alloc (.cells #[.int .i64 a0, .int .i64 a1, .int .i64 a2] 26))) (by (repeat' (first | (with_reducible exact Below.refl _ _) | (with_reducible refine Below.alloc ?_ ?_ _) | (with_reducible refine Below.setCell ?_ ?_ _) | (with_reducible refine Below.drew ?_) | (with_reducible refine below_drewN ?_ _) | (with_reducible assumption) | (with_reducible refine below_after (by with_reducible assumption) ?_) | go_size)))
      (try simp only [World.size_alloc] at h)
      rw [hG] at h
      rw [hw0]; exact h
    have HB : Hid (Below w.heap.size w w0) := by show Below w.heap.size w w0; rw [hw0]; (repeat' (first | (with_reducible exact Below.refl _ _) | (with_reducible refine Below.alloc ?_ ?_ _) | (with_reducible refine Below.setCell ?_ ?_ _) | (with_reducible refine Below.drew ?_) | (with_reducible refine below_drewN ?_ _) | (with_reducible assumption) | (with_reducible refine below_after (by with_reducible assumption) ?_) | go_size))
    clear hw0
    obtain ⟨GQ, hGQ⟩ : ∃ g, GC + 1 = g := ⟨_, rfl⟩
    rw [hGQ] at HQ ⊢
    have le_C : w.heap.size ≤ GC := by omega
    have le_Q : w.heap.size ≤ GQ := by omega
    have ne_Q_C : GQ ≠ GC := by omega
    have ne_C_Q : GC ≠ GQ := by omega
    clear hGQ
    obtain ⟨⟨qC0, qC1, qC2, qC3, qC4, qC5, qC6, qC7, qC8⟩, ⟨fC0, fC1, fC2, fC3, fC4, fC5, fC6, fC7, fC8⟩, zC⟩ := HC.out
    obtain ⟨⟨qQ0, qQ1, qQ2⟩, ⟨fQ0, fQ1, fQ2⟩, zQ⟩ := HQ.out
    go_wp2_with fail
    clear qC0 fC0 qC1 fC1 qC2 fC2 qC3 fC3 qC4 fC4 qC5 fC5 qC6 fC6 qC7 fC7 qC8 fC8 zC qQ0 fQ0 qQ1 fQ1 qQ2 fQ2 zQ
    go_at_call 47
    refine (door_pan_ints 60 _ eC 1 w0 (enters_of Tryd.func60 (by kernel_rfl) rfl) (fun W hW => codeOfError_one eF eC W (HEF.out.below (below_after hW HB.out)) (HEC.out.below (below_after hW HB.out)).b HNC.out) (fun W hW => cl_CoordinatesIn_panC GC GQ c0 c1 c2 c3 c4 c5 c6 c7 c8 a0 a1 a2 eC W (HEC.out.below (below_after hW HB.out)) HK.out (HC.out.below hW) (HQ.out.below hW))).mono ?_
    rintro e w9 ⟨rfl, hb⟩
    have HB := Lib.hid (below_after hb HB.out)
    clear hb
    clear HC
    clear HQ
    go_wp2_with fail
    refine bodyPost_ret (v := .tuple #[.slice none 0 0, .int .i64 1]) (by simp (maxDischargeDepth := 8) [results, Tryd.results26, go_sem, *]) rfl ?_
    have hb := HB.out
    exact ⟨.slice none 0 0, by simp [ciL, bls, ciO, bok, HK.out], by simp [ciL, bls, ciO, bok, HK.out]; exact OwnE.nil _ _, by (repeat' (first | (with_reducible exact Below.refl _ _) | (with_reducible refine Below.alloc ?_ ?_ _) | (with_reducible refine Below.setCell ?_ ?_ _) | (with_reducible refine Below.drew ?_) | (with_reducible refine below_drewN ?_ _) | (with_reducible assumption) | (with_reducible refine below_after (by with_reducible assumption) ?_) | go_size))⟩
  · have HK := Lib.hid hk
    clear hk
    cases hka : isSp a0 a1 a2
    · have HKA := Lib.hid hka
      clear hka
      obtain ⟨GC, hG⟩ : ∃ G, w.heap.size = G := ⟨_, rfl⟩
      have HG := Lib.hid hG
      go_enter Tryd.func26, Tryd.ntmps26
      go_upto_region 1 with fail
      obtain ⟨w0, hw0⟩ : ∃ w0, w0 = ((w.alloc (.cells #[.int .i64 c0, .int .i64 c1, .int .i64 c2, .int .i64 c3, .int .i64 c4, .int .i64 c5, .int .i64 c6, .int .i64 c7, .int .i64 c8] 39)).alloc (.cells #[.int .i64 a0, .int .i64 a1, .int .i64 a2] 26)) := ⟨_, rfl⟩
      rw [← hw0]
      have HC : Hid (Bk9 w0 GC c0 c1 c2 c3 c4 c5 c6 c7 c8) := by
        have h := (bk9_new w c0 c1 c2 c3 c4 c5 c6 c7 c8 39).below (W' := ((w.alloc (.cells #[.int .i64 c0, .int .i64 c1, .int .i64 c2, .int .i64 c3, .int .i64 c4, .int .i64 c5, .int .i64 c6, .int .i64 c7, .int .i64 c8] 39)).alloc (.cells #[.int .i64 a0, .int .i64 a1, .int .i64 a2] 26))) (by (repeat' (first | (with_reducible exact Below.refl _ _) | (with_reducible refine Below.alloc ?_ ?_ _) | (with_reducible refine Below.setCell ?_ ?_ _) | (with_reducible refine Below.drew ?_) | (with_reducible refine below_drewN ?_ _) | (with_reducible assumption) | (with_reducible refine below_after (by with_reducible assumption) ?_) | go_size)))
        (try simp only [World.size_alloc] at h)
        rw [hG] at h
        rw [hw0]; exact h
      have HQ : Hid (Bk3 w0 (GC + 1) a0 a1 a2) := by
        have h := (bk3_new (w.alloc (.cells #[.int .i64 c0, .int .i64 c1, .int .i64 c2, .int .i64 c3, .int .i64 c4, .int .i64 c5, .int .i64 c6, .int .i64 c7, .int .i64 c8] 39)) a0 a1 a2 26).below (W' := ((w.alloc (.cells #[.int .i64 c0, .int .i64 c1, .int .i64 c2, .int .i64 c3, .int .i64 c4, .int .i64 c5, .int .i64 c6, .int .i64 c7, .int .i64 c8] 39)).alloc (.cells #[.int .i64 a0, .int .i64 a1, .int .i64 a2] 26))) (by (repeat' (first | (with_reducible exact Below.refl _ _) | (with_reducible refine Below.alloc ?_ ?_ _) | (with_reducible refine Below.setCell ?_ ?_ _) | (with_reducible refine Below.drew ?_) | (with_reducible refine below_drewN ?_ _) | (with_reducible assumption) | (with_reducible refine below_after (by with_reducible assumption) ?_) | go_size)))
        (try simp only [World.size_alloc] at h)
        rw [hG] at h
        rw [hw0]; exact h
      have HB : Hid (Below w.heap.size w w0) := by show Below w.heap.size w w0; rw [hw0]; (repeat' (first | (with_reducible exact Below.refl _ _) | (with_reducible refine Below.alloc ?_ ?_ _) | (with_reducible refine Below.setCell ?_ ?_ _) | (with_reducible refine Below.drew ?_) | (with_reducible refine below_drewN ?_ _) | (with_reducible assumption) | (with_reducible refine below_after (by with_reducible assumption) ?_) | go_size))
      clear hw0
      obtain ⟨GQ, hGQ⟩ : ∃ g, GC + 1 = g := ⟨_, rfl⟩
      rw [hGQ] at HQ ⊢
      have le_C : w.heap.size ≤ GC := by omega
      have le_Q : w.heap.size ≤ GQ := by omega
      have ne_Q_C : GQ ≠ GC := by omega
      have ne_C_Q : GC ≠ GQ := by omega
      clear hGQ
      obtain ⟨⟨qC0, qC1, qC2, qC3, qC4, qC5, qC6, qC7, qC8⟩, ⟨fC0, fC1, fC2, fC3, fC4, fC5, fC6, fC7, fC8⟩, zC⟩ := HC.out
      obtain ⟨⟨qQ0, qQ1, qQ2⟩, ⟨fQ0, fQ1, fQ2⟩, zQ⟩ := HQ.out
      go_wp2_with fail
      clear qC0 fC0 qC1 fC1 qC2 fC2 qC3 fC3 qC4 fC4 qC5 fC5 qC6 fC6 qC7 fC7 qC8 fC8 zC qQ0 fQ0 qQ1 fQ1 qQ2 fQ2 zQ
      go_at_call 47
      refine (door_pan_ints 60 _ eS 1 w0 (enters_of Tryd.func60 (by kernel_rfl) rfl) (fun W hW => codeOfError_one eF eS W (HEF.out.below (below_after hW HB.out)) (HES.out.below (below_after hW HB.out)).b HNS.out) (fun W hW => cl_CoordinatesIn_panS GC GQ c0 c1 c2 c3 c4 c5 c6 c7 c8 a0 a1 a2 eS W (HES.out.below (below_after hW HB.out)) HK.out HKA.out (HC.out.below hW) (HQ.out.below hW))).mono ?_
      rintro e w9 ⟨rfl, hb⟩
      have HB := Lib.hid (below_after hb HB.out)
      clear hb
      clear HC
      clear HQ
      go_wp2_with fail
      refine bodyPost_ret (v := .tuple #[.slice none 0 0, .int .i64 1]) (by simp (maxDischargeDepth := 8) [results, Tryd.results26, go_sem, *]) rfl ?_
      have hb := HB.out
      exact ⟨.slice none 0 0, by simp [ciL, bls, ciO, bok, HK.out, HKA.out], by simp [ciL, bls, ciO, bok, HK.out, HKA.out]; exact OwnE.nil _ _, by (repeat' (first | (with_reducible exact Below.refl _ _) | (with_reducible refine Below.alloc ?_ ?_ _) | (with_reducible refine Below.setCell ?_ ?_ _) | (with_reducible refine Below.drew ?_) | (with_reducible refine below_drewN ?_ _) | (with_reducible assumption) | (with_reducible refine below_after (by with_reducible assumption) ?_) | go_size))⟩
    · have HKA := Lib.hid hka
      clear hka
      obtain ⟨GC, hG⟩ : ∃ G, w.heap.size = G := ⟨_, rfl⟩
      have HG := Lib.hid hG
      go_enter Tryd.func26, Tryd.ntmps26
      go_upto_region 1 with fail
      obtain ⟨w0, hw0⟩ : ∃ w0, w0 = ((w.alloc (.cells #[.int .i64 c0, .int .i64 c1, .int .i64 c2, .int .i64 c3, .int .i64 c4, .int .i64 c5, .int .i64 c6, .int .i64 c7, .int .i64 c8] 39)).alloc (.cells #[.int .i64 a0, .int .i64 a1, .int .i64 a2] 26)) := ⟨_, rfl⟩
      rw [← hw0]
      have HC : Hid (Bk9 w0 GC c0 c1 c2 c3 c4 c5 c6 c7 c8) := by
        have h := (bk9_new w c0 c1 c2 c3 c4 c5 c6 c7 c8 39).below (W' := ((w.alloc (.cells #[.int .i64 c0, .int .i64 c1, .int .i64 c2, .int .i64 c3, .int .i64 c4, .int .i64 c5, .int .i64 c6, .int .i64 c7, .int .i64 c8] 39)).alloc (.cells #[.int .i64 a0, .int .i64 a1, .int .i64 a2] 26))) (by (repeat' (first | (with_reducible exact Below.refl _ _) | (with_reducible refine Below.alloc ?_ ?_ _) | (with_reducible refine Below.setCell ?_ ?_ _) | (with_reducible refine Below.drew ?_) | (with_reducible refine below_drewN ?_ _) | (with_reducible assumption) | (with_reducible refine below_after (by with_reducible assumption) ?_) | go_size)))
        (try simp only [World.size_alloc] at h)
        rw [hG] at h
        rw [hw0]; exact h
      have HQ : Hid (Bk3 w0 (GC + 1) a0 a1 a2) := by
        have h := (bk3_new (w.alloc (.cells #[.int .i64 c0, .int .i64 c1, .int .i64 c2, .int .i64 c3, .int .i64 c4, .int .i64 c5, .int .i64 c6, .int .i64 c7, .int .i64 c8] 39)) a0 a1 a2 26).below (W' := ((w.alloc (.cells #[.int .i64 c0, .int .i64 c1, .int .i64 c2, .int .i64 c3, .int .i64 c4, .int .i64 c5, .int .i64 c6, .int .i64 c7, .int .i64 c8] 39)).alloc (.cells #[.int .i64 a0, .int .i64 a1, .int .i64 a2] 26))) (by (repeat' (first | (with_reducible exact Below.refl _ _) | (with_reducible refine Below.alloc ?_ ?_ _) | (with_reducible refine Below.setCell ?_ ?_ _) | (with_reducible refine Below.drew ?_) | (with_reducible refine below_drewN ?_ _) | (with_reducible assumption) | (with_reducible refine below_after (by with_reducible assumption) ?_) | go_size)))
        (try simp only [World.size_alloc] at h)
        rw [hG] at h
        rw [hw0]; exact h
      have HB : Hid (Below w.heap.size w w0) := by show Below w.heap.size w w0; rw [hw0]; (repeat' (first | (with_reducible exact Below.refl _ _) | (with_reducible refine Below.alloc ?_ ?_ _) | (with_reducible refine Below.setCell ?_ ?_ _) | (with_reducible refine Below.drew ?_) | (with_reducible refine below_drewN ?_ _) | (with_reducible assumption) | (with_reducible refine below_after (by with_reducible assumption) ?_) | go_size))
      clear hw0
      obtain ⟨GQ, hGQ⟩ : ∃ g, GC + 1 = g := ⟨_, rfl⟩
      rw [hGQ] at HQ ⊢
      have le_C : w.heap.size ≤ GC := by omega
      have le_Q : w.heap.size ≤ GQ := by omega
      have ne_Q_C : GQ ≠ GC := by omega
      have ne_C_Q : GC ≠ GQ := by omega
      clear hGQ
      obtain ⟨⟨qC0, qC1, qC2, qC3, qC4, qC5, qC6, qC7, qC8⟩, ⟨fC0, fC1, fC2, fC3, fC4, fC5, fC6, fC7, fC8⟩, zC⟩ := HC.out
      obtain ⟨⟨qQ0, qQ1, qQ2⟩, ⟨fQ0, fQ1, fQ2⟩, zQ⟩ := HQ.out
      go_wp2_with fail
      clear qC0 fC0 qC1 fC1 qC2 fC2 qC3 fC3 qC4 fC4 qC5 fC5 qC6 fC6 qC7 fC7 qC8 fC8 zC qQ0 fQ0 qQ1 fQ1 qQ2 fQ2 zQ
      go_at_call 47
      have hxs := HB.out.size
      refine (door_ret_ints 60 _ 0 (fun v W => OwnE 2 (w0.heap.size + 1) W v (ciL c0 c1 c2 c3 c4 c5 c6 c7 c8 a0 a1 a2)) w0 (enters_of Tryd.func60 (by kernel_rfl) rfl) (fun v W x hv => ownsRow_setCell_below hv (Nat.lt_succ_self _) _) (fun W hW hlt => ?_)).mono ?_
      · refine (cl_CoordinatesIn_ok GC GQ c0 c1 c2 c3 c4 c5 c6 c7 c8 a0 a1 a2 W HK.out HKA.out (HC.out.below hW) (HQ.out.below hW)).mono ?_
        rintro e w2 ⟨v, rfl, hv, hb⟩
        exact ⟨v, rfl, own_up hv hlt, hb⟩
      rintro e w9 ⟨v, rfl, hv, hb⟩
      obtain ⟨va, vc, rfl, _⟩ := own_viewE hv
      have HV : Hid (OwnE 2 w.heap.size w9 (.slice va (ciL c0 c1 c2 c3 c4 c5 c6 c7 c8 a0 a1 a2).length vc) (ciL c0 c1 c2 c3 c4 c5 c6 c7 c8 a0 a1 a2)) := own_up hv (by omega)
      have HB := Lib.hid (below_after hb HB.out)
      clear hb hv
      clear HC
      clear HQ
      go_wp2_with fail
      go_ret2
      have hb := HB.out
      have hb2 := HB.out
      rw [hG] at hb2
      have hko : bok (ciO c0 c1 c2 c3 c4 c5 c6 c7 c8 a0 a1 a2) = 0 := by simp [bok, ciO, HK.out, HKA.out]
      rw [hko]
      exact ⟨_, rfl, HV.out, by (repeat' (first | (with_reducible exact Below.refl _ _) | (with_reducible refine Below.alloc ?_ ?_ _) | (with_reducible refine Below.setCell ?_ ?_ _) | (with_reducible refine Below.drew ?_) | (with_reducible refine below_drewN ?_ _) | (with_reducible assumption) | (with_reducible refine below_after (by with_reducible assumption) ?_) | go_size))⟩
set_option maxHeartbeats 1600000 in
theorem cl_DistanceOfSpot_pan (GP GQ GR GS : Nat) (a0 a1 a2 b0 b1 b2 c0 c1 c2 d0 d1 d2 : Int) (eS : Addr) (w : World) (hes : EA w 0 eS) (hk : (isSp a0 a1 a2 && isSp b0 b1 b2 && isSp c0 c1 c2 && isSp d0 d1 d2) = false) (hP : Bk3 w GP a0 a1 a2) (hQ : Bk3 w GQ b0 b1 b2) (hR : Bk3 w GR c0 c1 c2) (hS : Bk3 w GS d0 d1 d2) :
    Calls Tryd.prog 87 #[.pointer (some ⟨GP, 0, none⟩), .pointer (some ⟨GQ, 0, none⟩), .pointer (some ⟨GR, 0, none⟩), .pointer (some ⟨GS, 0, none⟩)] w fun e w' => e = pan eS ∧ Below w.heap.size w w' := by
  have HB := Lib.hid (Below.refl w.heap.size w)
  have HP := Lib.hid hP
  have HQ := Lib.hid hQ
  have HR := Lib.hid hR
  have HS := Lib.hid hS
  clear hP hQ hR hS
  have HES := Lib.hid hes
  have HK := Lib.hid hk
  clear hes hk
  go_enter Tryd.func87, Tryd.ntmps87
  obtain ⟨⟨qP0, qP1, qP2⟩, ⟨fP0, fP1, fP2⟩, zP⟩ := HP.out
  obtain ⟨⟨qQ0, qQ1, qQ2⟩, ⟨fQ0, fQ1, fQ2⟩, zQ⟩ := HQ.out
  obtain ⟨⟨qR0, qR1, qR2⟩, ⟨fR0, fR1, fR2⟩, zR⟩ := HR.out
  obtain ⟨⟨qS0, qS1, qS2⟩, ⟨fS0, fS1, fS2⟩, zS⟩ := HS.out
  have hb := HB.out
  go_wp2_with fail
  go_at_call 49
  refine (demandSpots_4n a0 a1 a2 b0 b1 b2 c0 c1 c2 d0 d1 d2 _ _ _ _ (HES.out.below (Below.alloc hb hb.size _)) HK.out (by simp) (by go_cell) (by go_cell) (by go_cell) (by go_cell) (by go_cell) (by go_cell) (by go_cell) (by go_cell) (by go_cell) (by go_cell) (by go_cell) (by go_cell)).mono ?_
  rintro e w21 ⟨rfl, hba⟩
  have hb := al_below hba
  clear hba
  clear qP0 fP0 qP1 fP1 qP2 fP2 zP qQ0 fQ0 qQ1 fQ1 qQ2 fQ2 zQ qR0 fR0 qR1 fR1 qR2 fR2 zR qS0 fS0 qS1 fS1 qS2 fS2 zS
  have HP := Lib.hid (HP.out.below hb)
  have HQ := Lib.hid (HQ.out.below hb)
  have HR := Lib.hid (HR.out.below hb)
  have HS := Lib.hid (HS.out.below hb)
  have HB := Lib.hid (below_after hb HB.out)
  clear hb
  go_wp2_with fail
  exact ⟨rfl, rfl, HB.out⟩
set_option maxHeartbeats 1600000 in
theorem cl_DistanceOfSpot_zero (GP GQ GR GS : Nat) (a0 a1 a2 b0 b1 b2 c0 c1 c2 d0 d1 d2 : Int)  (w : World) (hk : (isSp a0 a1 a2 && isSp b0 b1 b2 && isSp c0 c1 c2 && isSp d0 d1 d2) = true) (hz : z3 (dcX a0 a1 a2 b0 b1 b2 c0 c1 c2) (dcY a0 a1 a2 b0 b1 b2 c0 c1 c2) (dcZ a0 a1 a2 b0 b1 b2 c0 c1 c2) = true) (hP : Bk3 w GP a0 a1 a2) (hQ : Bk3 w GQ b0 b1 b2) (hR : Bk3 w GR c0 c1 c2) (hS : Bk3 w GS d0 d1 d2) :
    Calls Tryd.prog 87 #[.pointer (some ⟨GP, 0, none⟩), .pointer (some ⟨GQ, 0, none⟩), .pointer (some ⟨GR, 0, none⟩), .pointer (some ⟨GS, 0, none⟩)] w fun e w' => e = .returned (.tuple #[.int .i64 0, .int .i64 5]) ∧ Below w.heap.size w w' := by
  have HB := Lib.hid (Below.refl w.heap.size w)
  have HP := Lib.hid hP
  have HQ := Lib.hid hQ
  have HR := Lib.hid hR
  have HS := Lib.hid hS
  clear hP hQ hR hS
  have HK := Lib.hid hk
  have h := hk
  simp only [Bool.and_eq_true] at h
  have HU0 := Lib.hid (isSp_W3 h.1.1.1)
  have HU1 := Lib.hid (isSp_W3 h.1.1.2)
  have HU2 := Lib.hid (isSp_W3 h.1.2)
  have HU3 := Lib.hid (isSp_W3 h.2)
  clear h hk
  have HEX : Hid (W3 1000000 (dcX a0 a1 a2 b0 b1 b2 c0 c1 c2) (dcY a0 a1 a2 b0 b1 b2 c0 c1 c2) (dcZ a0 a1 a2 b0 b1 b2 c0 c1 c2)) := ((HU1.out.sub HU0.out).cr (HU2.out.sub HU0.out)).up (by omega)
  have HLC : Hid (∀ w, Calls Tryd.prog 50 #[.agg #[.int .i64 (b0 - a0), .int .i64 (b1 - a1), .int .i64 (b2 - a2)], .agg #[.int .i64 (c0 - a0), .int .i64 (c1 - a1), .int .i64 (c2 - a2)]] w fun e w' => e = .returned (.agg #[.int .i64 (dcX a0 a1 a2 b0 b1 b2 c0 c1 c2), .int .i64 (dcY a0 a1 a2 b0 b1 b2 c0 c1 c2), .int .i64 (dcZ a0 a1 a2 b0 b1 b2 c0 c1 c2)]) ∧ Below w.heap.size w w') := fun w => crossOf_any _ _ _ _ _ _ w ((HU1.out.sub HU0.out).up (by omega)) ((HU2.out.sub HU0.out).up (by omega))
  generalize dcX a0 a1 a2 b0 b1 b2 c0 c1 c2 = X at *
  generalize dcY a0 a1 a2 b0 b1 b2 c0 c1 c2 = Y at *
  generalize dcZ a0 a1 a2 b0 b1 b2 c0 c1 c2 = Z at *
  have heq := eq_sp X Y Z 0 0 0
  rw [show ((X == 0 && Y == 0) && Z == 0) = true from hz] at heq
  clear hz
  go_enter Tryd.func87, Tryd.ntmps87
  obtain ⟨⟨qP0, qP1, qP2⟩, ⟨fP0, fP1, fP2⟩, zP⟩ := HP.out
  obtain ⟨⟨qQ0, qQ1, qQ2⟩, ⟨fQ0, fQ1, fQ2⟩, zQ⟩ := HQ.out
  obtain ⟨⟨qR0, qR1, qR2⟩, ⟨fR0, fR1, fR2⟩, zR⟩ := HR.out
  obtain ⟨⟨qS0, qS1, qS2⟩, ⟨fS0, fS1, fS2⟩, zS⟩ := HS.out
  go_wp2_with fail
  go_at_call 49
  refine (demandSpots_4y a0 a1 a2 b0 b1 b2 c0 c1 c2 d0 d1 d2 _ _ _ HK.out (by simp) (by go_cell) (by go_cell) (by go_cell) (by go_cell) (by go_cell) (by go_cell) (by go_cell) (by go_cell) (by go_cell) (by go_cell) (by go_cell) (by go_cell)).mono ?_
  rintro e w21 ⟨rfl, hba⟩
  have hb := al_below hba
  clear hba
  clear qP0 fP0 qP1 fP1 qP2 fP2 zP qQ0 fQ0 qQ1 fQ1 qQ2 fQ2 zQ qR0 fR0 qR1 fR1 qR2 fR2 zR qS0 fS0 qS1 fS1 qS2 fS2 zS
  have HP := Lib.hid (HP.out.below hb)
  have HQ := Lib.hid (HQ.out.below hb)
  have HR := Lib.hid (HR.out.below hb)
  have HS := Lib.hid (HS.out.below hb)
  have HB := Lib.hid (below_after hb HB.out)
  clear hb
  obtain ⟨⟨qP0, qP1, qP2⟩, ⟨fP0, fP1, fP2⟩, zP⟩ := HP.out
  obtain ⟨⟨qQ0, qQ1, qQ2⟩, ⟨fQ0, fQ1, fQ2⟩, zQ⟩ := HQ.out
  obtain ⟨⟨qR0, qR1, qR2⟩, ⟨fR0, fR1, fR2⟩, zR⟩ := HR.out
  obtain ⟨⟨qS0, qS1, qS2⟩, ⟨fS0, fS1, fS2⟩, zS⟩ := HS.out
  go_wp2_with fail
  go_at_call 80
  refine (edgesOf_any _ _ _ _ _ _ _ _ _ _ _ _ _ HU0.out HU1.out HU2.out HU3.out).mono ?_
  rintro e w22 ⟨rfl, hb⟩
  clear qP0 fP0 qP1 fP1 qP2 fP2 zP qQ0 fQ0 qQ1 fQ1 qQ2 fQ2 zQ qR0 fR0 qR1 fR1 qR2 fR2 zR qS0 fS0 qS1 fS1 qS2 fS2 zS
  have HP := Lib.hid (HP.out.below hb)
  have HQ := Lib.hid (HQ.out.below hb)
  have HR := Lib.hid (HR.out.below hb)
  have HS := Lib.hid (HS.out.below hb)
  have HB := Lib.hid (below_after hb HB.out)
  clear hb
  obtain ⟨⟨qP0, qP1, qP2⟩, ⟨fP0, fP1, fP2⟩, zP⟩ := HP.out
  obtain ⟨⟨qQ0, qQ1, qQ2⟩, ⟨fQ0, fQ1, fQ2⟩, zQ⟩ := HQ.out
  obtain ⟨⟨qR0, qR1, qR2⟩, ⟨fR0, fR1, fR2⟩, zR⟩ := HR.out
  obtain ⟨⟨qS0, qS1, qS2⟩, ⟨fS0, fS1, fS2⟩, zS⟩ := HS.out
  go_upto_region 3 with fail
  obtain ⟨GE, hGE⟩ : ∃ g, w22.heap.size = g := ⟨_, rfl⟩
  obtain ⟨w23, hw23⟩ : ∃ wx, wx = w22.alloc (.cells #[.int .i64 (b0 - a0), .int .i64 (b1 - a1), .int .i64 (b2 - a2), .int .i64 (c0 - a0), .int .i64 (c1 - a1), .int .i64 (c2 - a2), .int .i64 (d0 - a0), .int .i64 (d1 - a1), .int .i64 (d2 - a2)] 39) := ⟨_, rfl⟩
  rw [← hw23, hGE]
  have HE : Hid (Bk9 w23 GE (b0 - a0) (b1 - a1) (b2 - a2) (c0 - a0) (c1 - a1) (c2 - a2) (d0 - a0) (d1 - a1) (d2 - a2)) := by rw [hw23, ← hGE]; exact bk9_new w22 (b0 - a0) (b1 - a1) (b2 - a2) (c0 - a0) (c1 - a1) (c2 - a2) (d0 - a0) (d1 - a1) (d2 - a2) _
  have le_E : w.heap.size ≤ GE := by rw [← hGE]; exact HB.out.size
  have ne_E_P : GE ≠ GP := by have := HP.out.2.2; omega
  have ne_P_E : GP ≠ GE := Ne.symm ne_E_P
  have ne_E_Q : GE ≠ GQ := by have := HQ.out.2.2; omega
  have ne_Q_E : GQ ≠ GE := Ne.symm ne_E_Q
  have ne_E_R : GE ≠ GR := by have := HR.out.2.2; omega
  have ne_R_E : GR ≠ GE := Ne.symm ne_E_R
  have ne_E_S : GE ≠ GS := by have := HS.out.2.2; omega
  have ne_S_E : GS ≠ GE := Ne.symm ne_E_S
  clear qP0 fP0 qP1 fP1 qP2 fP2 zP qQ0 fQ0 qQ1 fQ1 qQ2 fQ2 zQ qR0 fR0 qR1 fR1 qR2 fR2 zR qS0 fS0 qS1 fS1 qS2 fS2 zS
  have HP := Lib.hid (HP.out.below ((Below.refl _ _).alloc (Nat.le_refl _) (.cells #[.int .i64 (b0 - a0), .int .i64 (b1 - a1), .int .i64 (b2 - a2), .int .i64 (c0 - a0), .int .i64 (c1 - a1), .int .i64 (c2 - a2), .int .i64 (d0 - a0), .int .i64 (d1 - a1), .int .i64 (d2 - a2)] 39)))
  have HQ := Lib.hid (HQ.out.below ((Below.refl _ _).alloc (Nat.le_refl _) (.cells #[.int .i64 (b0 - a0), .int .i64 (b1 - a1), .int .i64 (b2 - a2), .int .i64 (c0 - a0), .int .i64 (c1 - a1), .int .i64 (c2 - a2), .int .i64 (d0 - a0), .int .i64 (d1 - a1), .int .i64 (d2 - a2)] 39)))
  have HR := Lib.hid (HR.out.below ((Below.refl _ _).alloc (Nat.le_refl _) (.cells #[.int .i64 (b0 - a0), .int .i64 (b1 - a1), .int .i64 (b2 - a2), .int .i64 (c0 - a0), .int .i64 (c1 - a1), .int .i64 (c2 - a2), .int .i64 (d0 - a0), .int .i64 (d1 - a1), .int .i64 (d2 - a2)] 39)))
  have HS := Lib.hid (HS.out.below ((Below.refl _ _).alloc (Nat.le_refl _) (.cells #[.int .i64 (b0 - a0), .int .i64 (b1 - a1), .int .i64 (b2 - a2), .int .i64 (c0 - a0), .int .i64 (c1 - a1), .int .i64 (c2 - a2), .int .i64 (d0 - a0), .int .i64 (d1 - a1), .int .i64 (d2 - a2)] 39)))
  have HB := Lib.hid (Below.alloc HB.out HB.out.size (.cells #[.int .i64 (b0 - a0), .int .i64 (b1 - a1), .int .i64 (b2 - a2), .int .i64 (c0 - a0), .int .i64 (c1 - a1), .int .i64 (c2 - a2), .int .i64 (d0 - a0), .int .i64 (d1 - a1), .int .i64 (d2 - a2)] 39))
  rw [← hw23] at HP HQ HR HS HB
  clear hw23 hGE
  obtain ⟨⟨qP0, qP1, qP2⟩, ⟨fP0, fP1, fP2⟩, zP⟩ := HP.out
  obtain ⟨⟨qQ0, qQ1, qQ2⟩, ⟨fQ0, fQ1, fQ2⟩, zQ⟩ := HQ.out
  obtain ⟨⟨qR0, qR1, qR2⟩, ⟨fR0, fR1, fR2⟩, zR⟩ := HR.out
  obtain ⟨⟨qS0, qS1, qS2⟩, ⟨fS0, fS1, fS2⟩, zS⟩ := HS.out
  obtain ⟨⟨qE0, qE1, qE2, qE3, qE4, qE5, qE6, qE7, qE8⟩, ⟨fE0, fE1, fE2, fE3, fE4, fE5, fE6, fE7, fE8⟩, zE⟩ := HE.out
  go_wp2_with fail
  go_at_call 50
  refine (HLC.out _).mono ?_
  rintro e w24 ⟨rfl, hb⟩
  clear qP0 fP0 qP1 fP1 qP2 fP2 zP qQ0 fQ0 qQ1 fQ1 qQ2 fQ2 zQ qR0 fR0 qR1 fR1 qR2 fR2 zR qS0 fS0 qS1 fS1 qS2 fS2 zS qE0 fE0 qE1 fE1 qE2 fE2 qE3 fE3 qE4 fE4 qE5 fE5 qE6 fE6 qE7 fE7 qE8 fE8 zE
  have HP := Lib.hid (HP.out.below hb)
  have HQ := Lib.hid (HQ.out.below hb)
  have HR := Lib.hid (HR.out.below hb)
  have HS := Lib.hid (HS.out.below hb)
  have HE := Lib.hid (HE.out.below hb)
  have HB := Lib.hid (below_after hb HB.out)
  clear hb
  obtain ⟨⟨qP0, qP1, qP2⟩, ⟨fP0, fP1, fP2⟩, zP⟩ := HP.out
  obtain ⟨⟨qQ0, qQ1, qQ2⟩, ⟨fQ0, fQ1, fQ2⟩, zQ⟩ := HQ.out
  obtain ⟨⟨qR0, qR1, qR2⟩, ⟨fR0, fR1, fR2⟩, zR⟩ := HR.out
  obtain ⟨⟨qS0, qS1, qS2⟩, ⟨fS0, fS1, fS2⟩, zS⟩ := HS.out
  obtain ⟨⟨qE0, qE1, qE2, qE3, qE4, qE5, qE6, qE7, qE8⟩, ⟨fE0, fE1, fE2, fE3, fE4, fE5, fE6, fE7, fE8⟩, zE⟩ := HE.out
  go_upto_region 4 with fail
  obtain ⟨GX, hGX⟩ : ∃ g, w24.heap.size = g := ⟨_, rfl⟩
  obtain ⟨w25, hw25⟩ : ∃ wx, wx = w24.alloc (.cells #[.int .i64 X, .int .i64 Y, .int .i64 Z] 26) := ⟨_, rfl⟩
  rw [← hw25, hGX]
  have HX : Hid (Bk3 w25 GX X Y Z) := by rw [hw25, ← hGX]; exact bk3_new w24 X Y Z _
  have le_X : w.heap.size ≤ GX := by rw [← hGX]; exact HB.out.size
  have ne_X_P : GX ≠ GP := by have := HP.out.2.2; omega
  have ne_P_X : GP ≠ GX := Ne.symm ne_X_P
  have ne_X_Q : GX ≠ GQ := by have := HQ.out.2.2; omega
  have ne_Q_X : GQ ≠ GX := Ne.symm ne_X_Q
  have ne_X_R : GX ≠ GR := by have := HR.out.2.2; omega
  have ne_R_X : GR ≠ GX := Ne.symm ne_X_R
  have ne_X_S : GX ≠ GS := by have := HS.out.2.2; omega
  have ne_S_X : GS ≠ GX := Ne.symm ne_X_S
  have ne_X_E : GX ≠ GE := by have := HE.out.2.2; omega
  have ne_E_X : GE ≠ GX := Ne.symm ne_X_E
  clear qP0 fP0 qP1 fP1 qP2 fP2 zP qQ0 fQ0 qQ1 fQ1 qQ2 fQ2 zQ qR0 fR0 qR1 fR1 qR2 fR2 zR qS0 fS0 qS1 fS1 qS2 fS2 zS qE0 fE0 qE1 fE1 qE2 fE2 qE3 fE3 qE4 fE4 qE5 fE5 qE6 fE6 qE7 fE7 qE8 fE8 zE
  have HP := Lib.hid (HP.out.below ((Below.refl _ _).alloc (Nat.le_refl _) (.cells #[.int .i64 X, .int .i64 Y, .int .i64 Z] 26)))
  have HQ := Lib.hid (HQ.out.below ((Below.refl _ _).alloc (Nat.le_refl _) (.cells #[.int .i64 X, .int .i64 Y, .int .i64 Z] 26)))
  have HR := Lib.hid (HR.out.below ((Below.refl _ _).alloc (Nat.le_refl _) (.cells #[.int .i64 X, .int .i64 Y, .int .i64 Z] 26)))
  have HS := Lib.hid (HS.out.below ((Below.refl _ _).alloc (Nat.le_refl _) (.cells #[.int .i64 X, .int .i64 Y, .int .i64 Z] 26)))
  have HE := Lib.hid (HE.out.below ((Below.refl _ _).alloc (Nat.le_refl _) (.cells #[.int .i64 X, .int .i64 Y, .int .i64 Z] 26)))
  have HB := Lib.hid (Below.alloc HB.out HB.out.size (.cells #[.int .i64 X, .int .i64 Y, .int .i64 Z] 26))
  rw [← hw25] at HP HQ HR HS HE HB
  clear hw25 hGX
  obtain ⟨⟨qP0, qP1, qP2⟩, ⟨fP0, fP1, fP2⟩, zP⟩ := HP.out
  obtain ⟨⟨qQ0, qQ1, qQ2⟩, ⟨fQ0, fQ1, fQ2⟩, zQ⟩ := HQ.out
  obtain ⟨⟨qR0, qR1, qR2⟩, ⟨fR0, fR1, fR2⟩, zR⟩ := HR.out
  obtain ⟨⟨qS0, qS1, qS2⟩, ⟨fS0, fS1, fS2⟩, zS⟩ := HS.out
  obtain ⟨⟨qE0, qE1, qE2, qE3, qE4, qE5, qE6, qE7, qE8⟩, ⟨fE0, fE1, fE2, fE3, fE4, fE5, fE6, fE7, fE8⟩, zE⟩ := HE.out
  obtain ⟨⟨qX0, qX1, qX2⟩, ⟨fX0, fX1, fX2⟩, zX⟩ := HX.out
  go_wp2_with fail
  refine bodyPost_ret (v := .tuple #[.int .i64 0, .int .i64 5]) (by simp (maxDischargeDepth := 8) [results, Tryd.results87, go_sem, *]) rfl ?_
  have hb := HB.out
  exact ⟨rfl, by (repeat' (first | (with_reducible exact Below.refl _ _) | (with_reducible refine Below.alloc ?_ ?_ _) | (with_reducible refine Below.setCell ?_ ?_ _) | (with_reducible refine Below.drew ?_) | (with_reducible refine below_drewN ?_ _) | (with_reducible assumption) | (with_reducible refine below_after (by with_reducible assumption) ?_) | go_size))⟩
set_option maxHeartbeats 1600000 in
theorem cl_DistanceOfSpot_ok (GP GQ GR GS : Nat) (a0 a1 a2 b0 b1 b2 c0 c1 c2 d0 d1 d2 : Int)  (w : World) (hk : (isSp a0 a1 a2 && isSp b0 b1 b2 && isSp c0 c1 c2 && isSp d0 d1 d2) = true) (hz : z3 (dcX a0 a1 a2 b0 b1 b2 c0 c1 c2) (dcY a0 a1 a2 b0 b1 b2 c0 c1 c2) (dcZ a0 a1 a2 b0 b1 b2 c0 c1 c2) = false) (hP : Bk3 w GP a0 a1 a2) (hQ : Bk3 w GQ b0 b1 b2) (hR : Bk3 w GR c0 c1 c2) (hS : Bk3 w GS d0 d1 d2) :
    Calls Tryd.prog 87 #[.pointer (some ⟨GP, 0, none⟩), .pointer (some ⟨GQ, 0, none⟩), .pointer (some ⟨GR, 0, none⟩), .pointer (some ⟨GS, 0, none⟩)] w fun e w' => e = .returned (.tuple #[.int .i64 (dis (dcX a0 a1 a2 b0 b1 b2 c0 c1 c2) (dcY a0 a1 a2 b0 b1 b2 c0 c1 c2) (dcZ a0 a1 a2 b0 b1 b2 c0 c1 c2) (d0 - a0) (d1 - a1) (d2 - a2)), .int .i64 0]) ∧ Below w.heap.size w w' := by
  have HB := Lib.hid (Below.refl w.heap.size w)
  have HP := Lib.hid hP
  have HQ := Lib.hid hQ
  have HR := Lib.hid hR
  have HS := Lib.hid hS
  clear hP hQ hR hS
  have HK := Lib.hid hk
  have h := hk
  simp only [Bool.and_eq_true] at h
  have HU0 := Lib.hid (isSp_W3 h.1.1.1)
  have HU1 := Lib.hid (isSp_W3 h.1.1.2)
  have HU2 := Lib.hid (isSp_W3 h.1.2)
  have HU3 := Lib.hid (isSp_W3 h.2)
  clear h hk
  have HEX : Hid (W3 1000000 (dcX a0 a1 a2 b0 b1 b2 c0 c1 c2) (dcY a0 a1 a2 b0 b1 b2 c0 c1 c2) (dcZ a0 a1 a2 b0 b1 b2 c0 c1 c2)) := ((HU1.out.sub HU0.out).cr (HU2.out.sub HU0.out)).up (by omega)
  have HLC : Hid (∀ w, Calls Tryd.prog 50 #[.agg #[.int .i64 (b0 - a0), .int .i64 (b1 - a1), .int .i64 (b2 - a2)], .agg #[.int .i64 (c0 - a0), .int .i64 (c1 - a1), .int .i64 (c2 - a2)]] w fun e w' => e = .returned (.agg #[.int .i64 (dcX a0 a1 a2 b0 b1 b2 c0 c1 c2), .int .i64 (dcY a0 a1 a2 b0 b1 b2 c0 c1 c2), .int .i64 (dcZ a0 a1 a2 b0 b1 b2 c0 c1 c2)]) ∧ Below w.heap.size w w') := fun w => crossOf_any _ _ _ _ _ _ w ((HU1.out.sub HU0.out).up (by omega)) ((HU2.out.sub HU0.out).up (by omega))
  have hlp := lenV_pos hz
  have HSZ : Hid (∀ w, Calls Tryd.prog 71 #[.agg #[.int .i64 (b0 - a0), .int .i64 (b1 - a1), .int .i64 (b2 - a2), .int .i64 (c0 - a0), .int .i64 (c1 - a1), .int .i64 (c2 - a2), .int .i64 (d0 - a0), .int .i64 (d1 - a1), .int .i64 (d2 - a2)]] w fun e w' => e = .returned (.int .i64 (absI (detV (b0 - a0) (b1 - a1) (b2 - a2) (c0 - a0) (c1 - a1) (c2 - a2) (d0 - a0) (d1 - a1) (d2 - a2)))) ∧ Below w.heap.size w w') := fun w => sizeOf_any (b0 - a0) (b1 - a1) (b2 - a2) (c0 - a0) (c1 - a1) (c2 - a2) (d0 - a0) (d1 - a1) (d2 - a2) w ((HU1.out.sub HU0.out).up (by omega)) ((HU2.out.sub HU0.out).up (by omega)) ((HU3.out.sub HU0.out).up (by omega))
  have hwd : Wi 1000000000000000000 (detV (b0 - a0) (b1 - a1) (b2 - a2) (c0 - a0) (c1 - a1) (c2 - a2) (d0 - a0) (d1 - a1) (d2 - a2)) := ((HU1.out.sub HU0.out).det (HU2.out.sub HU0.out) (HU3.out.sub HU0.out)).up (by omega)
  have HDI : Hid (dis (dcX a0 a1 a2 b0 b1 b2 c0 c1 c2) (dcY a0 a1 a2 b0 b1 b2 c0 c1 c2) (dcZ a0 a1 a2 b0 b1 b2 c0 c1 c2) (d0 - a0) (d1 - a1) (d2 - a2) = (absI (detV (b0 - a0) (b1 - a1) (b2 - a2) (c0 - a0) (c1 - a1) (c2 - a2) (d0 - a0) (d1 - a1) (d2 - a2))).tdiv (lenV (dcX a0 a1 a2 b0 b1 b2 c0 c1 c2) (dcY a0 a1 a2 b0 b1 b2 c0 c1 c2) (dcZ a0 a1 a2 b0 b1 b2 c0 c1 c2))) := by
    show _ = _
    rw [abs_tdiv _ _ hlp, det_dot]; rfl
  have HLL : Hid (∀ w, Calls Tryd.prog 57 #[.agg #[.int .i64 (dcX a0 a1 a2 b0 b1 b2 c0 c1 c2), .int .i64 (dcY a0 a1 a2 b0 b1 b2 c0 c1 c2), .int .i64 (dcZ a0 a1 a2 b0 b1 b2 c0 c1 c2)]] w fun e w' => e = .returned (.int .i64 (lenV (dcX a0 a1 a2 b0 b1 b2 c0 c1 c2) (dcY a0 a1 a2 b0 b1 b2 c0 c1 c2) (dcZ a0 a1 a2 b0 b1 b2 c0 c1 c2))) ∧ Below w.heap.size w w') := fun w => lengthOfSpot_any _ _ _ w HEX.out
  have hwa : Wi 1000000000000000000 (absI (detV (b0 - a0) (b1 - a1) (b2 - a2) (c0 - a0) (c1 - a1) (c2 - a2) (d0 - a0) (d1 - a1) (d2 - a2))) := by unfold Wi at hwd; unfold Wi absI; omega
  have hq := tdiv_wi hwa hlp
  unfold Wi at hq
  generalize dis (dcX a0 a1 a2 b0 b1 b2 c0 c1 c2) (dcY a0 a1 a2 b0 b1 b2 c0 c1 c2) (dcZ a0 a1 a2 b0 b1 b2 c0 c1 c2) (d0 - a0) (d1 - a1) (d2 - a2) = DD at *
  generalize lenV (dcX a0 a1 a2 b0 b1 b2 c0 c1 c2) (dcY a0 a1 a2 b0 b1 b2 c0 c1 c2) (dcZ a0 a1 a2 b0 b1 b2 c0 c1 c2) = L at *
  generalize absI (detV (b0 - a0) (b1 - a1) (b2 - a2) (c0 - a0) (c1 - a1) (c2 - a2) (d0 - a0) (d1 - a1) (d2 - a2)) = N at *
  generalize dcX a0 a1 a2 b0 b1 b2 c0 c1 c2 = X at *
  generalize dcY a0 a1 a2 b0 b1 b2 c0 c1 c2 = Y at *
  generalize dcZ a0 a1 a2 b0 b1 b2 c0 c1 c2 = Z at *
  have heq := eq_sp X Y Z 0 0 0
  rw [show ((X == 0 && Y == 0) && Z == 0) = false from hz] at heq
  have hl0 : ¬ L = 0 := by omega
  have hl1 : (L == 0) = false := by simpa using hl0
  have hwq : wrap64 (N.tdiv L) = N.tdiv L := IntWalk.wrap64_in _ ⟨by omega, by omega⟩
  have hwq2 : IntKind.i64.wrap (N.tdiv L) = N.tdiv L := by rw [IntKind.wrap_i64]; have := hwq; unfold wrap64 at this; exact this
  clear hz hwd hwa
  go_enter Tryd.func87, Tryd.ntmps87
  obtain ⟨⟨qP0, qP1, qP2⟩, ⟨fP0, fP1, fP2⟩, zP⟩ := HP.out
  obtain ⟨⟨qQ0, qQ1, qQ2⟩, ⟨fQ0, fQ1, fQ2⟩, zQ⟩ := HQ.out
  obtain ⟨⟨qR0, qR1, qR2⟩, ⟨fR0, fR1, fR2⟩, zR⟩ := HR.out
  obtain ⟨⟨qS0, qS1, qS2⟩, ⟨fS0, fS1, fS2⟩, zS⟩ := HS.out
  go_wp2_with fail
  go_at_call 49
  refine (demandSpots_4y a0 a1 a2 b0 b1 b2 c0 c1 c2 d0 d1 d2 _ _ _ HK.out (by simp) (by go_cell) (by go_cell) (by go_cell) (by go_cell) (by go_cell) (by go_cell) (by go_cell) (by go_cell) (by go_cell) (by go_cell) (by go_cell) (by go_cell)).mono ?_
  rintro e w21 ⟨rfl, hba⟩
  have hb := al_below hba
  clear hba
  clear qP0 fP0 qP1 fP1 qP2 fP2 zP qQ0 fQ0 qQ1 fQ1 qQ2 fQ2 zQ qR0 fR0 qR1 fR1 qR2 fR2 zR qS0 fS0 qS1 fS1 qS2 fS2 zS
  have HP := Lib.hid (HP.out.below hb)
  have HQ := Lib.hid (HQ.out.below hb)
  have HR := Lib.hid (HR.out.below hb)
  have HS := Lib.hid (HS.out.below hb)
  have HB := Lib.hid (below_after hb HB.out)
  clear hb
  obtain ⟨⟨qP0, qP1, qP2⟩, ⟨fP0, fP1, fP2⟩, zP⟩ := HP.out
  obtain ⟨⟨qQ0, qQ1, qQ2⟩, ⟨fQ0, fQ1, fQ2⟩, zQ⟩ := HQ.out
  obtain ⟨⟨qR0, qR1, qR2⟩, ⟨fR0, fR1, fR2⟩, zR⟩ := HR.out
  obtain ⟨⟨qS0, qS1, qS2⟩, ⟨fS0, fS1, fS2⟩, zS⟩ := HS.out
  go_wp2_with fail
  go_at_call 80
  refine (edgesOf_any _ _ _ _ _ _ _ _ _ _ _ _ _ HU0.out HU1.out HU2.out HU3.out).mono ?_
  rintro e w22 ⟨rfl, hb⟩
  clear qP0 fP0 qP1 fP1 qP2 fP2 zP qQ0 fQ0 qQ1 fQ1 qQ2 fQ2 zQ qR0 fR0 qR1 fR1 qR2 fR2 zR qS0 fS0 qS1 fS1 qS2 fS2 zS
  have HP := Lib.hid (HP.out.below hb)
  have HQ := Lib.hid (HQ.out.below hb)
  have HR := Lib.hid (HR.out.below hb)
  have HS := Lib.hid (HS.out.below hb)
  have HB := Lib.hid (below_after hb HB.out)
  clear hb
  obtain ⟨⟨qP0, qP1, qP2⟩, ⟨fP0, fP1, fP2⟩, zP⟩ := HP.out
  obtain ⟨⟨qQ0, qQ1, qQ2⟩, ⟨fQ0, fQ1, fQ2⟩, zQ⟩ := HQ.out
  obtain ⟨⟨qR0, qR1, qR2⟩, ⟨fR0, fR1, fR2⟩, zR⟩ := HR.out
  obtain ⟨⟨qS0, qS1, qS2⟩, ⟨fS0, fS1, fS2⟩, zS⟩ := HS.out
  go_upto_region 3 with fail
  obtain ⟨GE, hGE⟩ : ∃ g, w22.heap.size = g := ⟨_, rfl⟩
  obtain ⟨w23, hw23⟩ : ∃ wx, wx = w22.alloc (.cells #[.int .i64 (b0 - a0), .int .i64 (b1 - a1), .int .i64 (b2 - a2), .int .i64 (c0 - a0), .int .i64 (c1 - a1), .int .i64 (c2 - a2), .int .i64 (d0 - a0), .int .i64 (d1 - a1), .int .i64 (d2 - a2)] 39) := ⟨_, rfl⟩
  rw [← hw23, hGE]
  have HE : Hid (Bk9 w23 GE (b0 - a0) (b1 - a1) (b2 - a2) (c0 - a0) (c1 - a1) (c2 - a2) (d0 - a0) (d1 - a1) (d2 - a2)) := by rw [hw23, ← hGE]; exact bk9_new w22 (b0 - a0) (b1 - a1) (b2 - a2) (c0 - a0) (c1 - a1) (c2 - a2) (d0 - a0) (d1 - a1) (d2 - a2) _
  have le_E : w.heap.size ≤ GE := by rw [← hGE]; exact HB.out.size
  have ne_E_P : GE ≠ GP := by have := HP.out.2.2; omega
  have ne_P_E : GP ≠ GE := Ne.symm ne_E_P
  have ne_E_Q : GE ≠ GQ := by have := HQ.out.2.2; omega
  have ne_Q_E : GQ ≠ GE := Ne.symm ne_E_Q
  have ne_E_R : GE ≠ GR := by have := HR.out.2.2; omega
  have ne_R_E : GR ≠ GE := Ne.symm ne_E_R
  have ne_E_S : GE ≠ GS := by have := HS.out.2.2; omega
  have ne_S_E : GS ≠ GE := Ne.symm ne_E_S
  clear qP0 fP0 qP1 fP1 qP2 fP2 zP qQ0 fQ0 qQ1 fQ1 qQ2 fQ2 zQ qR0 fR0 qR1 fR1 qR2 fR2 zR qS0 fS0 qS1 fS1 qS2 fS2 zS
  have HP := Lib.hid (HP.out.below ((Below.refl _ _).alloc (Nat.le_refl _) (.cells #[.int .i64 (b0 - a0), .int .i64 (b1 - a1), .int .i64 (b2 - a2), .int .i64 (c0 - a0), .int .i64 (c1 - a1), .int .i64 (c2 - a2), .int .i64 (d0 - a0), .int .i64 (d1 - a1), .int .i64 (d2 - a2)] 39)))
  have HQ := Lib.hid (HQ.out.below ((Below.refl _ _).alloc (Nat.le_refl _) (.cells #[.int .i64 (b0 - a0), .int .i64 (b1 - a1), .int .i64 (b2 - a2), .int .i64 (c0 - a0), .int .i64 (c1 - a1), .int .i64 (c2 - a2), .int .i64 (d0 - a0), .int .i64 (d1 - a1), .int .i64 (d2 - a2)] 39)))
  have HR := Lib.hid (HR.out.below ((Below.refl _ _).alloc (Nat.le_refl _) (.cells #[.int .i64 (b0 - a0), .int .i64 (b1 - a1), .int .i64 (b2 - a2), .int .i64 (c0 - a0), .int .i64 (c1 - a1), .int .i64 (c2 - a2), .int .i64 (d0 - a0), .int .i64 (d1 - a1), .int .i64 (d2 - a2)] 39)))
  have HS := Lib.hid (HS.out.below ((Below.refl _ _).alloc (Nat.le_refl _) (.cells #[.int .i64 (b0 - a0), .int .i64 (b1 - a1), .int .i64 (b2 - a2), .int .i64 (c0 - a0), .int .i64 (c1 - a1), .int .i64 (c2 - a2), .int .i64 (d0 - a0), .int .i64 (d1 - a1), .int .i64 (d2 - a2)] 39)))
  have HB := Lib.hid (Below.alloc HB.out HB.out.size (.cells #[.int .i64 (b0 - a0), .int .i64 (b1 - a1), .int .i64 (b2 - a2), .int .i64 (c0 - a0), .int .i64 (c1 - a1), .int .i64 (c2 - a2), .int .i64 (d0 - a0), .int .i64 (d1 - a1), .int .i64 (d2 - a2)] 39))
  rw [← hw23] at HP HQ HR HS HB
  clear hw23 hGE
  obtain ⟨⟨qP0, qP1, qP2⟩, ⟨fP0, fP1, fP2⟩, zP⟩ := HP.out
  obtain ⟨⟨qQ0, qQ1, qQ2⟩, ⟨fQ0, fQ1, fQ2⟩, zQ⟩ := HQ.out
  obtain ⟨⟨qR0, qR1, qR2⟩, ⟨fR0, fR1, fR2⟩, zR⟩ := HR.out
  obtain ⟨⟨qS0, qS1, qS2⟩, ⟨fS0, fS1, fS2⟩, zS⟩ := HS.out
  obtain ⟨⟨qE0, qE1, qE2, qE3, qE4, qE5, qE6, qE7, qE8⟩, ⟨fE0, fE1, fE2, fE3, fE4, fE5, fE6, fE7, fE8⟩, zE⟩ := HE.out
  go_wp2_with fail
  go_at_call 50
  refine (HLC.out _).mono ?_
  rintro e w24 ⟨rfl, hb⟩
  clear qP0 fP0 qP1 fP1 qP2 fP2 zP qQ0 fQ0 qQ1 fQ1 qQ2 fQ2 zQ qR0 fR0 qR1 fR1 qR2 fR2 zR qS0 fS0 qS1 fS1 qS2 fS2 zS qE0 fE0 qE1 fE1 qE2 fE2 qE3 fE3 qE4 fE4 qE5 fE5 qE6 fE6 qE7 fE7 qE8 fE8 zE
  have HP := Lib.hid (HP.out.below hb)
  have HQ := Lib.hid (HQ.out.below hb)
  have HR := Lib.hid (HR.out.below hb)
  have HS := Lib.hid (HS.out.below hb)
  have HE := Lib.hid (HE.out.below hb)
  have HB := Lib.hid (below_after hb HB.out)
  clear hb
  obtain ⟨⟨qP0, qP1, qP2⟩, ⟨fP0, fP1, fP2⟩, zP⟩ := HP.out
  obtain ⟨⟨qQ0, qQ1, qQ2⟩, ⟨fQ0, fQ1, fQ2⟩, zQ⟩ := HQ.out
  obtain ⟨⟨qR0, qR1, qR2⟩, ⟨fR0, fR1, fR2⟩, zR⟩ := HR.out
  obtain ⟨⟨qS0, qS1, qS2⟩, ⟨fS0, fS1, fS2⟩, zS⟩ := HS.out
  obtain ⟨⟨qE0, qE1, qE2, qE3, qE4, qE5, qE6, qE7, qE8⟩, ⟨fE0, fE1, fE2, fE3, fE4, fE5, fE6, fE7, fE8⟩, zE⟩ := HE.out
  go_upto_region 4 with fail
  obtain ⟨GX, hGX⟩ : ∃ g, w24.heap.size = g := ⟨_, rfl⟩
  obtain ⟨w25, hw25⟩ : ∃ wx, wx = w24.alloc (.cells #[.int .i64 X, .int .i64 Y, .int .i64 Z] 26) := ⟨_, rfl⟩
  rw [← hw25, hGX]
  have HX : Hid (Bk3 w25 GX X Y Z) := by rw [hw25, ← hGX]; exact bk3_new w24 X Y Z _
  have le_X : w.heap.size ≤ GX := by rw [← hGX]; exact HB.out.size
  have ne_X_P : GX ≠ GP := by have := HP.out.2.2; omega
  have ne_P_X : GP ≠ GX := Ne.symm ne_X_P
  have ne_X_Q : GX ≠ GQ := by have := HQ.out.2.2; omega
  have ne_Q_X : GQ ≠ GX := Ne.symm ne_X_Q
  have ne_X_R : GX ≠ GR := by have := HR.out.2.2; omega
  have ne_R_X : GR ≠ GX := Ne.symm ne_X_R
  have ne_X_S : GX ≠ GS := by have := HS.out.2.2; omega
  have ne_S_X : GS ≠ GX := Ne.symm ne_X_S
  have ne_X_E : GX ≠ GE := by have := HE.out.2.2; omega
  have ne_E_X : GE ≠ GX := Ne.symm ne_X_E
  clear qP0 fP0 qP1 fP1 qP2 fP2 zP qQ0 fQ0 qQ1 fQ1 qQ2 fQ2 zQ qR0 fR0 qR1 fR1 qR2 fR2 zR qS0 fS0 qS1 fS1 qS2 fS2 zS qE0 fE0 qE1 fE1 qE2 fE2 qE3 fE3 qE4 fE4 qE5 fE5 qE6 fE6 qE7 fE7 qE8 fE8 zE
  have HP := Lib.hid (HP.out.below ((Below.refl _ _).alloc (Nat.le_refl _) (.cells #[.int .i64 X, .int .i64 Y, .int .i64 Z] 26)))
  have HQ := Lib.hid (HQ.out.below ((Below.refl _ _).alloc (Nat.le_refl _) (.cells #[.int .i64 X, .int .i64 Y, .int .i64 Z] 26)))
  have HR := Lib.hid (HR.out.below ((Below.refl _ _).alloc (Nat.le_refl _) (.cells #[.int .i64 X, .int .i64 Y, .int .i64 Z] 26)))
  have HS := Lib.hid (HS.out.below ((Below.refl _ _).alloc (Nat.le_refl _) (.cells #[.int .i64 X, .int .i64 Y, .int .i64 Z] 26)))
  have HE := Lib.hid (HE.out.below ((Below.refl _ _).alloc (Nat.le_refl _) (.cells #[.int .i64 X, .int .i64 Y, .int .i64 Z] 26)))
  have HB := Lib.hid (Below.alloc HB.out HB.out.size (.cells #[.int .i64 X, .int .i64 Y, .int .i64 Z] 26))
  rw [← hw25] at HP HQ HR HS HE HB
  clear hw25 hGX
  obtain ⟨⟨qP0, qP1, qP2⟩, ⟨fP0, fP1, fP2⟩, zP⟩ := HP.out
  obtain ⟨⟨qQ0, qQ1, qQ2⟩, ⟨fQ0, fQ1, fQ2⟩, zQ⟩ := HQ.out
  obtain ⟨⟨qR0, qR1, qR2⟩, ⟨fR0, fR1, fR2⟩, zR⟩ := HR.out
  obtain ⟨⟨qS0, qS1, qS2⟩, ⟨fS0, fS1, fS2⟩, zS⟩ := HS.out
  obtain ⟨⟨qE0, qE1, qE2, qE3, qE4, qE5, qE6, qE7, qE8⟩, ⟨fE0, fE1, fE2, fE3, fE4, fE5, fE6, fE7, fE8⟩, zE⟩ := HE.out
  obtain ⟨⟨qX0, qX1, qX2⟩, ⟨fX0, fX1, fX2⟩, zX⟩ := HX.out
  go_upto_region 6 with fail
  clear qP0 fP0 qP1 fP1 qP2 fP2 zP qQ0 fQ0 qQ1 fQ1 qQ2 fQ2 zQ qR0 fR0 qR1 fR1 qR2 fR2 zR qS0 fS0 qS1 fS1 qS2 fS2 zS qE0 fE0 qE1 fE1 qE2 fE2 qE3 fE3 qE4 fE4 qE5 fE5 qE6 fE6 qE7 fE7 qE8 fE8 zE qX0 fX0 qX1 fX1 qX2 fX2 zX
  have HXX : Hid (∀ W, Below w25.heap.size w25 W → Bk3 W GP a0 a1 a2 ∧ Bk3 W GQ b0 b1 b2 ∧ Bk3 W GR c0 c1 c2 ∧ Bk3 W GS d0 d1 d2 ∧ Bk9 W GE (b0 - a0) (b1 - a1) (b2 - a2) (c0 - a0) (c1 - a1) (c2 - a2) (d0 - a0) (d1 - a1) (d2 - a2) ∧ Bk3 W GX X Y Z) := fun W hW => ⟨HP.out.below hW, HQ.out.below hW, HR.out.below hW, HS.out.below hW, HE.out.below hW, HX.out.below hW⟩
  go_wp2_with fail
  refine wp_region_held_drew (S := fun W => Below w25.heap.size w25 W) (by kernel_rfl) ?_ (fun hHeld => ?_); focus ((try dsimp only); exact (Below.refl _ _).drew)
  have HP := Lib.hid (HP.out.below (Below.drew (Below.refl _ _)))
  have HQ := Lib.hid (HQ.out.below (Below.drew (Below.refl _ _)))
  have HR := Lib.hid (HR.out.below (Below.drew (Below.refl _ _)))
  have HS := Lib.hid (HS.out.below (Below.drew (Below.refl _ _)))
  have HE := Lib.hid (HE.out.below (Below.drew (Below.refl _ _)))
  have HX := Lib.hid (HX.out.below (Below.drew (Below.refl _ _)))
  have hHeld : Below w25.heap.size w25 _ := hHeld
  obtain ⟨wD25, hwD25⟩ : ∃ wD, w25.drew = wD := ⟨_, rfl⟩
  rw [hwD25] at hHeld HP HQ HR HS HE HX ⊢
  clear hwD25
  (refine wpAnyH_take (i := 0) (v := ?_) rfl (by kernel_rfl) (by kernel_rfl) (by kernel_rfl) (fun _ _ _ h => h) (Or.inl ⟨rfl, ?_⟩) (by assumption) ?_; rotate_left; focus (intro W hSw; (try dsimp only at hSw); have hxx := HXX.out _ hSw; obtain ⟨hxP, hxQ, hxR, hxS, hxE, hxX⟩ := hxx; obtain ⟨⟨iP0, iP1, iP2⟩, _, _⟩ := hxP; obtain ⟨⟨iQ0, iQ1, iQ2⟩, _, _⟩ := hxQ; obtain ⟨⟨iR0, iR1, iR2⟩, _, _⟩ := hxR; obtain ⟨⟨iS0, iS1, iS2⟩, _, _⟩ := hxS; obtain ⟨⟨iE0, iE1, iE2, iE3, iE4, iE5, iE6, iE7, iE8⟩, _, _⟩ := hxE; obtain ⟨⟨iX0, iX1, iX2⟩, _, _⟩ := hxX; go_simp; try (with_reducible rfl))); (try simp only [Act.put, List.getElem_toArray, List.getElem_cons_succ, List.getElem_cons_zero, List.setIfInBounds_toArray, List.set_cons_zero, List.set_cons_succ])
  (refine wpAnyH_take (i := 2) (v := ?_) rfl (by kernel_rfl) (by kernel_rfl) (by kernel_rfl) (fun _ _ _ h => h) (Or.inl ⟨rfl, ?_⟩) (by assumption) ?_; rotate_left; focus (intro W hSw; (try dsimp only at hSw); have hxx := HXX.out _ hSw; obtain ⟨hxP, hxQ, hxR, hxS, hxE, hxX⟩ := hxx; obtain ⟨⟨iP0, iP1, iP2⟩, _, _⟩ := hxP; obtain ⟨⟨iQ0, iQ1, iQ2⟩, _, _⟩ := hxQ; obtain ⟨⟨iR0, iR1, iR2⟩, _, _⟩ := hxR; obtain ⟨⟨iS0, iS1, iS2⟩, _, _⟩ := hxS; obtain ⟨⟨iE0, iE1, iE2, iE3, iE4, iE5, iE6, iE7, iE8⟩, _, _⟩ := hxE; obtain ⟨⟨iX0, iX1, iX2⟩, _, _⟩ := hxX; go_simp; try (with_reducible rfl))); (try simp only [Act.put, List.getElem_toArray, List.getElem_cons_succ, List.getElem_cons_zero, List.setIfInBounds_toArray, List.set_cons_zero, List.set_cons_succ])
  refine wpAnyH_ready (rs := [1]) (by kernel_rfl) (by simp) ?_; refine AllReadyH.cons rfl (fun K hK => ?_) AllReadyH.nil
  go_simp; (go_at_call 71; refine (HSZ.out _).mono ?_; rintro en ywr25x0 ⟨rfl, hb2⟩); have HP := Lib.hid (HP.out.below hb2); have HQ := Lib.hid (HQ.out.below hb2); have HR := Lib.hid (HR.out.below hb2); have HS := Lib.hid (HS.out.below hb2); have HE := Lib.hid (HE.out.below hb2); have HX := Lib.hid (HX.out.below hb2); refine hK.out _ _ (below_after hb2 hHeld) (fun hHeld2 => ?_); clear hb2; (clear hHeld; rename _ => hHeld; clear hK K; have hHeld : Below w25.heap.size w25 _ := hHeld); (try simp only [Act.put, List.getElem_toArray, List.getElem_cons_succ, List.getElem_cons_zero, List.setIfInBounds_toArray, List.set_cons_zero, List.set_cons_succ])
  refine wpAnyH_ready (rs := [3]) (by kernel_rfl) (by simp) ?_; refine AllReadyH.cons rfl (fun K hK => ?_) AllReadyH.nil
  go_simp; (go_at_call 57; refine (HLL.out _).mono ?_; rintro en ywr25x1 ⟨rfl, hb2⟩); have HP := Lib.hid (HP.out.below hb2); have HQ := Lib.hid (HQ.out.below hb2); have HR := Lib.hid (HR.out.below hb2); have HS := Lib.hid (HS.out.below hb2); have HE := Lib.hid (HE.out.below hb2); have HX := Lib.hid (HX.out.below hb2); refine hK.out _ _ (below_after hb2 hHeld) (fun hHeld2 => ?_); clear hb2; (clear hHeld; rename _ => hHeld; clear hK K; have hHeld : Below w25.heap.size w25 _ := hHeld); (try simp only [Act.put, List.getElem_toArray, List.getElem_cons_succ, List.getElem_cons_zero, List.setIfInBounds_toArray, List.set_cons_zero, List.set_cons_succ])
  (refine wpAnyH_take (i := 4) (v := ?_) rfl (by kernel_rfl) (by kernel_rfl) (by kernel_rfl) (fun _ _ _ h => h) (Or.inl ⟨rfl, ?_⟩) (by assumption) ?_; rotate_left; focus (intro W hSw; (try dsimp only at hSw); have hxx := HXX.out _ hSw; obtain ⟨hxP, hxQ, hxR, hxS, hxE, hxX⟩ := hxx; obtain ⟨⟨iP0, iP1, iP2⟩, _, _⟩ := hxP; obtain ⟨⟨iQ0, iQ1, iQ2⟩, _, _⟩ := hxQ; obtain ⟨⟨iR0, iR1, iR2⟩, _, _⟩ := hxR; obtain ⟨⟨iS0, iS1, iS2⟩, _, _⟩ := hxS; obtain ⟨⟨iE0, iE1, iE2, iE3, iE4, iE5, iE6, iE7, iE8⟩, _, _⟩ := hxE; obtain ⟨⟨iX0, iX1, iX2⟩, _, _⟩ := hxX; go_simp; try (with_reducible rfl))); (try simp only [Act.put, List.getElem_toArray, List.getElem_cons_succ, List.getElem_cons_zero, List.setIfInBounds_toArray, List.set_cons_zero, List.set_cons_succ])
  (refine wpAnyH_take (i := 5) (v := ?_) rfl (by kernel_rfl) (by kernel_rfl) (by kernel_rfl) (fun _ _ _ h => h) (Or.inl ⟨rfl, ?_⟩) (by assumption) ?_; rotate_left; focus (intro W hSw; (try dsimp only at hSw); have hxx := HXX.out _ hSw; obtain ⟨hxP, hxQ, hxR, hxS, hxE, hxX⟩ := hxx; obtain ⟨⟨iP0, iP1, iP2⟩, _, _⟩ := hxP; obtain ⟨⟨iQ0, iQ1, iQ2⟩, _, _⟩ := hxQ; obtain ⟨⟨iR0, iR1, iR2⟩, _, _⟩ := hxR; obtain ⟨⟨iS0, iS1, iS2⟩, _, _⟩ := hxS; obtain ⟨⟨iE0, iE1, iE2, iE3, iE4, iE5, iE6, iE7, iE8⟩, _, _⟩ := hxE; obtain ⟨⟨iX0, iX1, iX2⟩, _, _⟩ := hxX; go_simp; try (with_reducible rfl))); (try simp only [Act.put, List.getElem_toArray, List.getElem_cons_succ, List.getElem_cons_zero, List.setIfInBounds_toArray, List.set_cons_zero, List.set_cons_succ])
  (refine wpAnyH_take (i := 6) (v := ?_) rfl (by kernel_rfl) (by kernel_rfl) (by kernel_rfl) (fun _ _ _ h => h) (Or.inl ⟨rfl, ?_⟩) (by assumption) ?_; rotate_left; focus (intro W hSw; (try dsimp only at hSw); have hxx := HXX.out _ hSw; obtain ⟨hxP, hxQ, hxR, hxS, hxE, hxX⟩ := hxx; obtain ⟨⟨iP0, iP1, iP2⟩, _, _⟩ := hxP; obtain ⟨⟨iQ0, iQ1, iQ2⟩, _, _⟩ := hxQ; obtain ⟨⟨iR0, iR1, iR2⟩, _, _⟩ := hxR; obtain ⟨⟨iS0, iS1, iS2⟩, _, _⟩ := hxS; obtain ⟨⟨iE0, iE1, iE2, iE3, iE4, iE5, iE6, iE7, iE8⟩, _, _⟩ := hxE; obtain ⟨⟨iX0, iX1, iX2⟩, _, _⟩ := hxX; go_simp; try (with_reducible rfl))); (try simp only [Act.put, List.getElem_toArray, List.getElem_cons_succ, List.getElem_cons_zero, List.setIfInBounds_toArray, List.set_cons_zero, List.set_cons_succ])
  refine wpAnyH_done (by kernel_rfl) ?_ _
  have HB := Lib.hid (HB.out.trans (hHeld.mono HB.out.size))
  clear hHeld HXX
  obtain ⟨⟨qP0, qP1, qP2⟩, ⟨fP0, fP1, fP2⟩, zP⟩ := HP.out
  obtain ⟨⟨qQ0, qQ1, qQ2⟩, ⟨fQ0, fQ1, fQ2⟩, zQ⟩ := HQ.out
  obtain ⟨⟨qR0, qR1, qR2⟩, ⟨fR0, fR1, fR2⟩, zR⟩ := HR.out
  obtain ⟨⟨qS0, qS1, qS2⟩, ⟨fS0, fS1, fS2⟩, zS⟩ := HS.out
  obtain ⟨⟨qE0, qE1, qE2, qE3, qE4, qE5, qE6, qE7, qE8⟩, ⟨fE0, fE1, fE2, fE3, fE4, fE5, fE6, fE7, fE8⟩, zE⟩ := HE.out
  obtain ⟨⟨qX0, qX1, qX2⟩, ⟨fX0, fX1, fX2⟩, zX⟩ := HX.out
  go_wp2_with fail
  refine bodyPost_ret (v := .tuple #[.int .i64 (N.tdiv L), .int .i64 0]) (by simp (maxDischargeDepth := 8) [results, Tryd.results87, go_sem, *]) rfl ?_
  have hb := HB.out
  exact ⟨by rw [HDI.out], by (repeat' (first | (with_reducible exact Below.refl _ _) | (with_reducible refine Below.alloc ?_ ?_ _) | (with_reducible refine Below.setCell ?_ ?_ _) | (with_reducible refine Below.drew ?_) | (with_reducible refine below_drewN ?_ _) | (with_reducible assumption) | (with_reducible refine below_after (by with_reducible assumption) ?_) | go_size))⟩
set_option maxHeartbeats 1600000 in
theorem impl_DistanceOfSpot_any (a0 a1 a2 b0 b1 b2 c0 c1 c2 d0 d1 d2 : Int) (eF eS : Addr) (w : World) (hF : EA w 3 eF) (hS : EA w 0 eS) (nS : eS ≠ eF) :
    Calls Tryd.prog 44 #[.agg #[.int .i64 a0, .int .i64 a1, .int .i64 a2], .agg #[.int .i64 b0, .int .i64 b1, .int .i64 b2], .agg #[.int .i64 c0, .int .i64 c1, .int .i64 c2], .agg #[.int .i64 d0, .int .i64 d1, .int .i64 d2]] w fun e w' => e = .returned (.tuple #[.int .i64 (diV a0 a1 a2 b0 b1 b2 c0 c1 c2 d0 d1 d2), .int .i64 (diK a0 a1 a2 b0 b1 b2 c0 c1 c2 d0 d1 d2)]) ∧ Below w.heap.size w w' := by
  have hmf : ∀ (fn : Fn) (first cap : Array Value) (w : World), (Instr.makeFunc fn first cap).run Tryd.prog w = .ok (.func fn first cap) w := fun _ _ _ _ => rfl
  have HEF := Lib.hid hF
  have HES := Lib.hid hS
  have HNS := Lib.hid nS
  clear hF hS nS
  cases hk : (isSp a0 a1 a2 && isSp b0 b1 b2 && isSp c0 c1 c2 && isSp d0 d1 d2)
  · have HK := Lib.hid hk
    have HO : Hid (diO a0 a1 a2 b0 b1 b2 c0 c1 c2 d0 d1 d2 = false) := hk
    clear hk
    obtain ⟨GP, hG⟩ : ∃ G, w.heap.size = G := ⟨_, rfl⟩
    have HG := Lib.hid hG
    go_enter Tryd.func44, Tryd.ntmps44
    go_upto_region 1 with fail
    obtain ⟨w0, hw0⟩ : ∃ w0, w0 = ((((w.alloc (.cells #[.int .i64 a0, .int .i64 a1, .int .i64 a2] 26)).alloc (.cells #[.int .i64 b0, .int .i64 b1, .int .i64 b2] 26)).alloc (.cells #[.int .i64 c0, .int .i64 c1, .int .i64 c2] 26)).alloc (.cells #[.int .i64 d0, .int .i64 d1, .int .i64 d2] 26)) := ⟨_, rfl⟩
    rw [← hw0]
    have HP : Hid (Bk3 w0 GP a0 a1 a2) := by
      have h := (bk3_new w a0 a1 a2 26).below (W' := ((((w.alloc (.cells #[.int .i64 a0, .int .i64 a1, .int .i64 a2] 26)).alloc (.cells #[.int .i64 b0, .int .i64 b1, .int .i64 b2] 26)).alloc (.cells #[.int .i64 c0, .int .i64 c1, .int .i64 c2] 26)).alloc (.cells #[.int .i64 d0, .int .i64 d1, .int .i64 d2] 26))) (by (repeat' (first | (with_reducible exact Below.refl _ _) | (with_reducible refine Below.alloc ?_ ?_ _) | (with_reducible refine Below.setCell ?_ ?_ _) | (with_reducible refine Below.drew ?_) | (with_reducible refine below_drewN ?_ _) | (with_reducible assumption) | (with_reducible refine below_after (by with_reducible assumption) ?_) | go_size)))
      (try simp only [World.size_alloc] at h)
      rw [hG] at h
      rw [hw0]; exact h
    have HQ : Hid (Bk3 w0 (GP + 1) b0 b1 b2) := by
      have h := (bk3_new (w.alloc (.cells #[.int .i64 a0, .int .i64 a1, .int .i64 a2] 26)) b0 b1 b2 26).below (W' := ((((w.alloc (.cells #[.int .i64 a0, .int .i64 a1, .int .i64 a2] 26)).alloc (.cells #[.int .i64 b0, .int .i64 b1, .int .i64 b2] 26)).alloc (.cells #[.int .i64 c0, .int .i64 c1, .int .i64 c2] 26)).alloc (.cells #[.int .i64 d0, .int .i64 d1, .int .i64 d2] 26))) (by (repeat' (first | (with_reducible exact Below.refl _ _) | (with_reducible refine Below.alloc ?_ ?_ _) | (with_reducible refine Below.setCell ?_ ?_ _) | (with_reducible refine Below.drew ?_) | (with_reducible refine below_drewN ?_ _) | (with_reducible assumption) | (with_reducible refine below_after (by with_reducible assumption) ?_) | go_size)))
      (try simp only [World.size_alloc] at h)
      rw [hG] at h
      rw [hw0]; exact h
    have HR : Hid (Bk3 w0 (GP + 1 + 1) c0 c1 c2) := by
      have h := (bk3_new ((w.alloc (.cells #[.int .i64 a0, .int .i64 a1, .int .i64 a2] 26)).alloc (.cells #[.int .i64 b0, .int .i64 b1, .int .i64 b2] 26)) c0 c1 c2 26).below (W' := ((((w.alloc (.cells #[.int .i64 a0, .int .i64 a1, .int .i64 a2] 26)).alloc (.cells #[.int .i64 b0, .int .i64 b1, .int .i64 b2] 26)).alloc (.cells #[.int .i64 c0, .int .i64 c1, .int .i64 c2] 26)).alloc (.cells #[.int .i64 d0, .int .i64 d1, .int .i64 d2] 26))) (by (repeat' (first | (with_reducible exact Below.refl _ _) | (with_reducible refine Below.alloc ?_ ?_ _) | (with_reducible refine Below.setCell ?_ ?_ _) | (with_reducible refine Below.drew ?_) | (with_reducible refine below_drewN ?_ _) | (with_reducible assumption) | (with_reducible refine below_after (by with_reducible assumption) ?_) | go_size)))
      (try simp only [World.size_alloc] at h)
      rw [hG] at h
      rw [hw0]; exact h
    have HS : Hid (Bk3 w0 (GP + 1 + 1 + 1) d0 d1 d2) := by
      have h := (bk3_new (((w.alloc (.cells #[.int .i64 a0, .int .i64 a1, .int .i64 a2] 26)).alloc (.cells #[.int .i64 b0, .int .i64 b1, .int .i64 b2] 26)).alloc (.cells #[.int .i64 c0, .int .i64 c1, .int .i64 c2] 26)) d0 d1 d2 26).below (W' := ((((w.alloc (.cells #[.int .i64 a0, .int .i64 a1, .int .i64 a2] 26)).alloc (.cells #[.int .i64 b0, .int .i64 b1, .int .i64 b2] 26)).alloc (.cells #[.int .i64 c0, .int .i64 c1, .int .i64 c2] 26)).alloc (.cells #[.int .i64 d0, .int .i64 d1, .int .i64 d2] 26))) (by (repeat' (first | (with_reducible exact Below.refl _ _) | (with_reducible refine Below.alloc ?_ ?_ _) | (with_reducible refine Below.setCell ?_ ?_ _) | (with_reducible refine Below.drew ?_) | (with_reducible refine below_drewN ?_ _) | (with_reducible assumption) | (with_reducible refine below_after (by with_reducible assumption) ?_) | go_size)))
      (try simp only [World.size_alloc] at h)
      rw [hG] at h
      rw [hw0]; exact h
    have HB : Hid (Below w.heap.size w w0) := by show Below w.heap.size w w0; rw [hw0]; (repeat' (first | (with_reducible exact Below.refl _ _) | (with_reducible refine Below.alloc ?_ ?_ _) | (with_reducible refine Below.setCell ?_ ?_ _) | (with_reducible refine Below.drew ?_) | (with_reducible refine below_drewN ?_ _) | (with_reducible assumption) | (with_reducible refine below_after (by with_reducible assumption) ?_) | go_size))
    clear hw0
    obtain ⟨GS, hGS⟩ : ∃ g, GP + 1 + 1 + 1 = g := ⟨_, rfl⟩
    rw [hGS] at HS ⊢
    obtain ⟨GR, hGR⟩ : ∃ g, GP + 1 + 1 = g := ⟨_, rfl⟩
    rw [hGR] at HR ⊢
    obtain ⟨GQ, hGQ⟩ : ∃ g, GP + 1 = g := ⟨_, rfl⟩
    rw [hGQ] at HQ ⊢
    have le_P : w.heap.size ≤ GP := by omega
    have le_Q : w.heap.size ≤ GQ := by omega
    have ne_Q_P : GQ ≠ GP := by omega
    have ne_P_Q : GP ≠ GQ := by omega
    have le_R : w.heap.size ≤ GR := by omega
    have ne_R_P : GR ≠ GP := by omega
    have ne_P_R : GP ≠ GR := by omega
    have ne_R_Q : GR ≠ GQ := by omega
    have ne_Q_R : GQ ≠ GR := by omega
    have le_S : w.heap.size ≤ GS := by omega
    have ne_S_P : GS ≠ GP := by omega
    have ne_P_S : GP ≠ GS := by omega
    have ne_S_Q : GS ≠ GQ := by omega
    have ne_Q_S : GQ ≠ GS := by omega
    have ne_S_R : GS ≠ GR := by omega
    have ne_R_S : GR ≠ GS := by omega
    clear hGQ hGR hGS
    obtain ⟨⟨qP0, qP1, qP2⟩, ⟨fP0, fP1, fP2⟩, zP⟩ := HP.out
    obtain ⟨⟨qQ0, qQ1, qQ2⟩, ⟨fQ0, fQ1, fQ2⟩, zQ⟩ := HQ.out
    obtain ⟨⟨qR0, qR1, qR2⟩, ⟨fR0, fR1, fR2⟩, zR⟩ := HR.out
    obtain ⟨⟨qS0, qS1, qS2⟩, ⟨fS0, fS1, fS2⟩, zS⟩ := HS.out
    go_wp2_with fail
    clear qP0 fP0 qP1 fP1 qP2 fP2 zP qQ0 fQ0 qQ1 fQ1 qQ2 fQ2 zQ qR0 fR0 qR1 fR1 qR2 fR2 zR qS0 fS0 qS1 fS1 qS2 fS2 zS
    go_at_call 52
    refine (door_pan_int 87 _ eS 1 w0 (enters_of Tryd.func87 (by kernel_rfl) rfl) (fun W hW => codeOfError_one eF eS W (HEF.out.below (below_after hW HB.out)) (HES.out.below (below_after hW HB.out)).b HNS.out) (fun W hW => cl_DistanceOfSpot_pan GP GQ GR GS a0 a1 a2 b0 b1 b2 c0 c1 c2 d0 d1 d2 eS W (HES.out.below (below_after hW HB.out)) HK.out (HP.out.below hW) (HQ.out.below hW) (HR.out.below hW) (HS.out.below hW))).mono ?_
    rintro e w9 ⟨rfl, hb⟩
    have HB := Lib.hid (below_after hb HB.out)
    clear hb
    clear HP
    clear HQ
    clear HR
    clear HS
    go_wp2_with fail
    refine bodyPost_ret (v := .tuple #[.int .i64 0, .int .i64 1]) (by simp (maxDischargeDepth := 8) [results, Tryd.results44, go_sem, *]) rfl ?_
    have hb := HB.out
    exact ⟨by simp [diV, diK, HO.out], by (repeat' (first | (with_reducible exact Below.refl _ _) | (with_reducible refine Below.alloc ?_ ?_ _) | (with_reducible refine Below.setCell ?_ ?_ _) | (with_reducible refine Below.drew ?_) | (with_reducible refine below_drewN ?_ _) | (with_reducible assumption) | (with_reducible refine below_after (by with_reducible assumption) ?_) | go_size))⟩
  · have HK := Lib.hid hk
    have HO : Hid (diO a0 a1 a2 b0 b1 b2 c0 c1 c2 d0 d1 d2 = true) := hk
    clear hk
    cases hz : z3 (dcX a0 a1 a2 b0 b1 b2 c0 c1 c2) (dcY a0 a1 a2 b0 b1 b2 c0 c1 c2) (dcZ a0 a1 a2 b0 b1 b2 c0 c1 c2)
    · have HZ := Lib.hid hz
      clear hz
      obtain ⟨GP, hG⟩ : ∃ G, w.heap.size = G := ⟨_, rfl⟩
      have HG := Lib.hid hG
      go_enter Tryd.func44, Tryd.ntmps44
      go_upto_region 1 with fail
      obtain ⟨w0, hw0⟩ : ∃ w0, w0 = ((((w.alloc (.cells #[.int .i64 a0, .int .i64 a1, .int .i64 a2] 26)).alloc (.cells #[.int .i64 b0, .int .i64 b1, .int .i64 b2] 26)).alloc (.cells #[.int .i64 c0, .int .i64 c1, .int .i64 c2] 26)).alloc (.cells #[.int .i64 d0, .int .i64 d1, .int .i64 d2] 26)) := ⟨_, rfl⟩
      rw [← hw0]
      have HP : Hid (Bk3 w0 GP a0 a1 a2) := by
        have h := (bk3_new w a0 a1 a2 26).below (W' := ((((w.alloc (.cells #[.int .i64 a0, .int .i64 a1, .int .i64 a2] 26)).alloc (.cells #[.int .i64 b0, .int .i64 b1, .int .i64 b2] 26)).alloc (.cells #[.int .i64 c0, .int .i64 c1, .int .i64 c2] 26)).alloc (.cells #[.int .i64 d0, .int .i64 d1, .int .i64 d2] 26))) (by (repeat' (first | (with_reducible exact Below.refl _ _) | (with_reducible refine Below.alloc ?_ ?_ _) | (with_reducible refine Below.setCell ?_ ?_ _) | (with_reducible refine Below.drew ?_) | (with_reducible refine below_drewN ?_ _) | (with_reducible assumption) | (with_reducible refine below_after (by with_reducible assumption) ?_) | go_size)))
        (try simp only [World.size_alloc] at h)
        rw [hG] at h
        rw [hw0]; exact h
      have HQ : Hid (Bk3 w0 (GP + 1) b0 b1 b2) := by
        have h := (bk3_new (w.alloc (.cells #[.int .i64 a0, .int .i64 a1, .int .i64 a2] 26)) b0 b1 b2 26).below (W' := ((((w.alloc (.cells #[.int .i64 a0, .int .i64 a1, .int .i64 a2] 26)).alloc (.cells #[.int .i64 b0, .int .i64 b1, .int .i64 b2] 26)).alloc (.cells #[.int .i64 c0, .int .i64 c1, .int .i64 c2] 26)).alloc (.cells #[.int .i64 d0, .int .i64 d1, .int .i64 d2] 26))) (by (repeat' (first | (with_reducible exact Below.refl _ _) | (with_reducible refine Below.alloc ?_ ?_ _) | (with_reducible refine Below.setCell ?_ ?_ _) | (with_reducible refine Below.drew ?_) | (with_reducible refine below_drewN ?_ _) | (with_reducible assumption) | (with_reducible refine below_after (by with_reducible assumption) ?_) | go_size)))
        (try simp only [World.size_alloc] at h)
        rw [hG] at h
        rw [hw0]; exact h
      have HR : Hid (Bk3 w0 (GP + 1 + 1) c0 c1 c2) := by
        have h := (bk3_new ((w.alloc (.cells #[.int .i64 a0, .int .i64 a1, .int .i64 a2] 26)).alloc (.cells #[.int .i64 b0, .int .i64 b1, .int .i64 b2] 26)) c0 c1 c2 26).below (W' := ((((w.alloc (.cells #[.int .i64 a0, .int .i64 a1, .int .i64 a2] 26)).alloc (.cells #[.int .i64 b0, .int .i64 b1, .int .i64 b2] 26)).alloc (.cells #[.int .i64 c0, .int .i64 c1, .int .i64 c2] 26)).alloc (.cells #[.int .i64 d0, .int .i64 d1, .int .i64 d2] 26))) (by (repeat' (first | (with_reducible exact Below.refl _ _) | (with_reducible refine Below.alloc ?_ ?_ _) | (with_reducible refine Below.setCell ?_ ?_ _) | (with_reducible refine Below.drew ?_) | (with_reducible refine below_drewN ?_ _) | (with_reducible assumption) | (with_reducible refine below_after (by with_reducible assumption) ?_) | go_size)))
        (try simp only [World.size_alloc] at h)
        rw [hG] at h
        rw [hw0]; exact h
      have HS : Hid (Bk3 w0 (GP + 1 + 1 + 1) d0 d1 d2) := by
        have h := (bk3_new (((w.alloc (.cells #[.int .i64 a0, .int .i64 a1, .int .i64 a2] 26)).alloc (.cells #[.int .i64 b0, .int .i64 b1, .int .i64 b2] 26)).alloc (.cells #[.int .i64 c0, .int .i64 c1, .int .i64 c2] 26)) d0 d1 d2 26).below (W' := ((((w.alloc (.cells #[.int .i64 a0, .int .i64 a1, .int .i64 a2] 26)).alloc (.cells #[.int .i64 b0, .int .i64 b1, .int .i64 b2] 26)).alloc (.cells #[.int .i64 c0, .int .i64 c1, .int .i64 c2] 26)).alloc (.cells #[.int .i64 d0, .int .i64 d1, .int .i64 d2] 26))) (by (repeat' (first | (with_reducible exact Below.refl _ _) | (with_reducible refine Below.alloc ?_ ?_ _) | (with_reducible refine Below.setCell ?_ ?_ _) | (with_reducible refine Below.drew ?_) | (with_reducible refine below_drewN ?_ _) | (with_reducible assumption) | (with_reducible refine below_after (by with_reducible assumption) ?_) | go_size)))
        (try simp only [World.size_alloc] at h)
        rw [hG] at h
        rw [hw0]; exact h
      have HB : Hid (Below w.heap.size w w0) := by show Below w.heap.size w w0; rw [hw0]; (repeat' (first | (with_reducible exact Below.refl _ _) | (with_reducible refine Below.alloc ?_ ?_ _) | (with_reducible refine Below.setCell ?_ ?_ _) | (with_reducible refine Below.drew ?_) | (with_reducible refine below_drewN ?_ _) | (with_reducible assumption) | (with_reducible refine below_after (by with_reducible assumption) ?_) | go_size))
      clear hw0
      obtain ⟨GS, hGS⟩ : ∃ g, GP + 1 + 1 + 1 = g := ⟨_, rfl⟩
      rw [hGS] at HS ⊢
      obtain ⟨GR, hGR⟩ : ∃ g, GP + 1 + 1 = g := ⟨_, rfl⟩
      rw [hGR] at HR ⊢
      obtain ⟨GQ, hGQ⟩ : ∃ g, GP + 1 = g := ⟨_, rfl⟩
      rw [hGQ] at HQ ⊢
      have le_P : w.heap.size ≤ GP := by omega
      have le_Q : w.heap.size ≤ GQ := by omega
      have ne_Q_P : GQ ≠ GP := by omega
      have ne_P_Q : GP ≠ GQ := by omega
      have le_R : w.heap.size ≤ GR := by omega
      have ne_R_P : GR ≠ GP := by omega
      have ne_P_R : GP ≠ GR := by omega
      have ne_R_Q : GR ≠ GQ := by omega
      have ne_Q_R : GQ ≠ GR := by omega
      have le_S : w.heap.size ≤ GS := by omega
      have ne_S_P : GS ≠ GP := by omega
      have ne_P_S : GP ≠ GS := by omega
      have ne_S_Q : GS ≠ GQ := by omega
      have ne_Q_S : GQ ≠ GS := by omega
      have ne_S_R : GS ≠ GR := by omega
      have ne_R_S : GR ≠ GS := by omega
      clear hGQ hGR hGS
      obtain ⟨⟨qP0, qP1, qP2⟩, ⟨fP0, fP1, fP2⟩, zP⟩ := HP.out
      obtain ⟨⟨qQ0, qQ1, qQ2⟩, ⟨fQ0, fQ1, fQ2⟩, zQ⟩ := HQ.out
      obtain ⟨⟨qR0, qR1, qR2⟩, ⟨fR0, fR1, fR2⟩, zR⟩ := HR.out
      obtain ⟨⟨qS0, qS1, qS2⟩, ⟨fS0, fS1, fS2⟩, zS⟩ := HS.out
      go_wp2_with fail
      clear qP0 fP0 qP1 fP1 qP2 fP2 zP qQ0 fQ0 qQ1 fQ1 qQ2 fQ2 zQ qR0 fR0 qR1 fR1 qR2 fR2 zR qS0 fS0 qS1 fS1 qS2 fS2 zS
      go_at_call 52
      refine (door_ret_int 87 _ 0 (fun v _ => v = .int .i64 (dis (dcX a0 a1 a2 b0 b1 b2 c0 c1 c2) (dcY a0 a1 a2 b0 b1 b2 c0 c1 c2) (dcZ a0 a1 a2 b0 b1 b2 c0 c1 c2) (d0 - a0) (d1 - a1) (d2 - a2))) w0 (enters_of Tryd.func87 (by kernel_rfl) rfl) (fun _ _ _ h => h) (fun W hW hlt => ?_)).mono ?_
      · refine (cl_DistanceOfSpot_ok GP GQ GR GS a0 a1 a2 b0 b1 b2 c0 c1 c2 d0 d1 d2 W HK.out HZ.out (HP.out.below hW) (HQ.out.below hW) (HR.out.below hW) (HS.out.below hW)).mono ?_
        rintro e w2 ⟨rfl, hb⟩
        exact ⟨_, rfl, rfl, hb⟩
      rintro e w9 ⟨v, rfl, rfl, hb⟩
      have HB := Lib.hid (below_after hb HB.out)
      clear hb
      clear HP
      clear HQ
      clear HR
      clear HS
      go_wp2_with fail
      refine bodyPost_ret (v := .tuple #[.int .i64 (dis (dcX a0 a1 a2 b0 b1 b2 c0 c1 c2) (dcY a0 a1 a2 b0 b1 b2 c0 c1 c2) (dcZ a0 a1 a2 b0 b1 b2 c0 c1 c2) (d0 - a0) (d1 - a1) (d2 - a2)), .int .i64 (0)]) (by simp (maxDischargeDepth := 8) [results, Tryd.results44, go_sem, *]) rfl ?_
      have hb := HB.out
      exact ⟨by unfold diV diK; rw [HO.out, HZ.out]; rfl, by (repeat' (first | (with_reducible exact Below.refl _ _) | (with_reducible refine Below.alloc ?_ ?_ _) | (with_reducible refine Below.setCell ?_ ?_ _) | (with_reducible refine Below.drew ?_) | (with_reducible refine below_drewN ?_ _) | (with_reducible assumption) | (with_reducible refine below_after (by with_reducible assumption) ?_) | go_size))⟩
    · have HZ := Lib.hid hz
      clear hz
      obtain ⟨GP, hG⟩ : ∃ G, w.heap.size = G := ⟨_, rfl⟩
      have HG := Lib.hid hG
      go_enter Tryd.func44, Tryd.ntmps44
      go_upto_region 1 with fail
      obtain ⟨w0, hw0⟩ : ∃ w0, w0 = ((((w.alloc (.cells #[.int .i64 a0, .int .i64 a1, .int .i64 a2] 26)).alloc (.cells #[.int .i64 b0, .int .i64 b1, .int .i64 b2] 26)).alloc (.cells #[.int .i64 c0, .int .i64 c1, .int .i64 c2] 26)).alloc (.cells #[.int .i64 d0, .int .i64 d1, .int .i64 d2] 26)) := ⟨_, rfl⟩
      rw [← hw0]
      have HP : Hid (Bk3 w0 GP a0 a1 a2) := by
        have h := (bk3_new w a0 a1 a2 26).below (W' := ((((w.alloc (.cells #[.int .i64 a0, .int .i64 a1, .int .i64 a2] 26)).alloc (.cells #[.int .i64 b0, .int .i64 b1, .int .i64 b2] 26)).alloc (.cells #[.int .i64 c0, .int .i64 c1, .int .i64 c2] 26)).alloc (.cells #[.int .i64 d0, .int .i64 d1, .int .i64 d2] 26))) (by (repeat' (first | (with_reducible exact Below.refl _ _) | (with_reducible refine Below.alloc ?_ ?_ _) | (with_reducible refine Below.setCell ?_ ?_ _) | (with_reducible refine Below.drew ?_) | (with_reducible refine below_drewN ?_ _) | (with_reducible assumption) | (with_reducible refine below_after (by with_reducible assumption) ?_) | go_size)))
        (try simp only [World.size_alloc] at h)
        rw [hG] at h
        rw [hw0]; exact h
      have HQ : Hid (Bk3 w0 (GP + 1) b0 b1 b2) := by
        have h := (bk3_new (w.alloc (.cells #[.int .i64 a0, .int .i64 a1, .int .i64 a2] 26)) b0 b1 b2 26).below (W' := ((((w.alloc (.cells #[.int .i64 a0, .int .i64 a1, .int .i64 a2] 26)).alloc (.cells #[.int .i64 b0, .int .i64 b1, .int .i64 b2] 26)).alloc (.cells #[.int .i64 c0, .int .i64 c1, .int .i64 c2] 26)).alloc (.cells #[.int .i64 d0, .int .i64 d1, .int .i64 d2] 26))) (by (repeat' (first | (with_reducible exact Below.refl _ _) | (with_reducible refine Below.alloc ?_ ?_ _) | (with_reducible refine Below.setCell ?_ ?_ _) | (with_reducible refine Below.drew ?_) | (with_reducible refine below_drewN ?_ _) | (with_reducible assumption) | (with_reducible refine below_after (by with_reducible assumption) ?_) | go_size)))
        (try simp only [World.size_alloc] at h)
        rw [hG] at h
        rw [hw0]; exact h
      have HR : Hid (Bk3 w0 (GP + 1 + 1) c0 c1 c2) := by
        have h := (bk3_new ((w.alloc (.cells #[.int .i64 a0, .int .i64 a1, .int .i64 a2] 26)).alloc (.cells #[.int .i64 b0, .int .i64 b1, .int .i64 b2] 26)) c0 c1 c2 26).below (W' := ((((w.alloc (.cells #[.int .i64 a0, .int .i64 a1, .int .i64 a2] 26)).alloc (.cells #[.int .i64 b0, .int .i64 b1, .int .i64 b2] 26)).alloc (.cells #[.int .i64 c0, .int .i64 c1, .int .i64 c2] 26)).alloc (.cells #[.int .i64 d0, .int .i64 d1, .int .i64 d2] 26))) (by (repeat' (first | (with_reducible exact Below.refl _ _) | (with_reducible refine Below.alloc ?_ ?_ _) | (with_reducible refine Below.setCell ?_ ?_ _) | (with_reducible refine Below.drew ?_) | (with_reducible refine below_drewN ?_ _) | (with_reducible assumption) | (with_reducible refine below_after (by with_reducible assumption) ?_) | go_size)))
        (try simp only [World.size_alloc] at h)
        rw [hG] at h
        rw [hw0]; exact h
      have HS : Hid (Bk3 w0 (GP + 1 + 1 + 1) d0 d1 d2) := by
        have h := (bk3_new (((w.alloc (.cells #[.int .i64 a0, .int .i64 a1, .int .i64 a2] 26)).alloc (.cells #[.int .i64 b0, .int .i64 b1, .int .i64 b2] 26)).alloc (.cells #[.int .i64 c0, .int .i64 c1, .int .i64 c2] 26)) d0 d1 d2 26).below (W' := ((((w.alloc (.cells #[.int .i64 a0, .int .i64 a1, .int .i64 a2] 26)).alloc (.cells #[.int .i64 b0, .int .i64 b1, .int .i64 b2] 26)).alloc (.cells #[.int .i64 c0, .int .i64 c1, .int .i64 c2] 26)).alloc (.cells #[.int .i64 d0, .int .i64 d1, .int .i64 d2] 26))) (by (repeat' (first | (with_reducible exact Below.refl _ _) | (with_reducible refine Below.alloc ?_ ?_ _) | (with_reducible refine Below.setCell ?_ ?_ _) | (with_reducible refine Below.drew ?_) | (with_reducible refine below_drewN ?_ _) | (with_reducible assumption) | (with_reducible refine below_after (by with_reducible assumption) ?_) | go_size)))
        (try simp only [World.size_alloc] at h)
        rw [hG] at h
        rw [hw0]; exact h
      have HB : Hid (Below w.heap.size w w0) := by show Below w.heap.size w w0; rw [hw0]; (repeat' (first | (with_reducible exact Below.refl _ _) | (with_reducible refine Below.alloc ?_ ?_ _) | (with_reducible refine Below.setCell ?_ ?_ _) | (with_reducible refine Below.drew ?_) | (with_reducible refine below_drewN ?_ _) | (with_reducible assumption) | (with_reducible refine below_after (by with_reducible assumption) ?_) | go_size))
      clear hw0
      obtain ⟨GS, hGS⟩ : ∃ g, GP + 1 + 1 + 1 = g := ⟨_, rfl⟩
      rw [hGS] at HS ⊢
      obtain ⟨GR, hGR⟩ : ∃ g, GP + 1 + 1 = g := ⟨_, rfl⟩
      rw [hGR] at HR ⊢
      obtain ⟨GQ, hGQ⟩ : ∃ g, GP + 1 = g := ⟨_, rfl⟩
      rw [hGQ] at HQ ⊢
      have le_P : w.heap.size ≤ GP := by omega
      have le_Q : w.heap.size ≤ GQ := by omega
      have ne_Q_P : GQ ≠ GP := by omega
      have ne_P_Q : GP ≠ GQ := by omega
      have le_R : w.heap.size ≤ GR := by omega
      have ne_R_P : GR ≠ GP := by omega
      have ne_P_R : GP ≠ GR := by omega
      have ne_R_Q : GR ≠ GQ := by omega
      have ne_Q_R : GQ ≠ GR := by omega
      have le_S : w.heap.size ≤ GS := by omega
      have ne_S_P : GS ≠ GP := by omega
      have ne_P_S : GP ≠ GS := by omega
      have ne_S_Q : GS ≠ GQ := by omega
      have ne_Q_S : GQ ≠ GS := by omega
      have ne_S_R : GS ≠ GR := by omega
      have ne_R_S : GR ≠ GS := by omega
      clear hGQ hGR hGS
      obtain ⟨⟨qP0, qP1, qP2⟩, ⟨fP0, fP1, fP2⟩, zP⟩ := HP.out
      obtain ⟨⟨qQ0, qQ1, qQ2⟩, ⟨fQ0, fQ1, fQ2⟩, zQ⟩ := HQ.out
      obtain ⟨⟨qR0, qR1, qR2⟩, ⟨fR0, fR1, fR2⟩, zR⟩ := HR.out
      obtain ⟨⟨qS0, qS1, qS2⟩, ⟨fS0, fS1, fS2⟩, zS⟩ := HS.out
      go_wp2_with fail
      clear qP0 fP0 qP1 fP1 qP2 fP2 zP qQ0 fQ0 qQ1 fQ1 qQ2 fQ2 zQ qR0 fR0 qR1 fR1 qR2 fR2 zR qS0 fS0 qS1 fS1 qS2 fS2 zS
      go_at_call 52
      refine (door_ret_int 87 _ 5 (fun v _ => v = .int .i64 (0)) w0 (enters_of Tryd.func87 (by kernel_rfl) rfl) (fun _ _ _ h => h) (fun W hW hlt => ?_)).mono ?_
      · refine (cl_DistanceOfSpot_zero GP GQ GR GS a0 a1 a2 b0 b1 b2 c0 c1 c2 d0 d1 d2 W HK.out HZ.out (HP.out.below hW) (HQ.out.below hW) (HR.out.below hW) (HS.out.below hW)).mono ?_
        rintro e w2 ⟨rfl, hb⟩
        exact ⟨_, rfl, rfl, hb⟩
      rintro e w9 ⟨v, rfl, rfl, hb⟩
      have HB := Lib.hid (below_after hb HB.out)
      clear hb
      clear HP
      clear HQ
      clear HR
      clear HS
      go_wp2_with fail
      refine bodyPost_ret (v := .tuple #[.int .i64 (0), .int .i64 (5)]) (by simp (maxDischargeDepth := 8) [results, Tryd.results44, go_sem, *]) rfl ?_
      have hb := HB.out
      exact ⟨by unfold diV diK; rw [HO.out, HZ.out]; rfl, by (repeat' (first | (with_reducible exact Below.refl _ _) | (with_reducible refine Below.alloc ?_ ?_ _) | (with_reducible refine Below.setCell ?_ ?_ _) | (with_reducible refine Below.drew ?_) | (with_reducible refine below_drewN ?_ _) | (with_reducible assumption) | (with_reducible refine below_after (by with_reducible assumption) ?_) | go_size))⟩
end Go.Proofs.YtjjblgmokmalaaaDoor
