/-
  The walk of laws.FnExactTripleOfDigits: for all arguments it returns true and leaves memory as it was. No conditions.
-/
import Derived.Test.YthckbobbnkhnpaaTdI
namespace Go.Proofs.Ythckbobbnkhnpaa
open Go.ChangeShapes Go.WideShapes Go.ChangeAt Go.RowKit
set_option linter.unusedVariables false
set_option linter.unusedSimpArgs false
set_option maxRecDepth 100000

theorem impl_TripleOfDigits_any (a0 : Option Addr) (n cap : Nat) (vs : List Value) (xss : List (List Int)) (r0 r1 r2 : Int) (w : World) (h : RdSS w a0 n vs xss) (hm : n ≤ 1048576) (hmm : ∀ i, i < n → (xss.getD i []).length ≤ 1048576) :
    Calls Try.prog 8 #[.slice a0 n cap, .agg #[.int .i64 r0, .int .i64 r1, .int .i64 r2]] w fun e w' => e = .returned (tdR xss r0 r1 r2) ∧ Below w.heap.size w w' := by
  cases hT : isTr r0 r1 r2 with
  | false => exact td_inv a0 n cap vs xss r0 r1 r2 w h hm hmm hT
  | true =>
    cases hr : (r0 == 0) with
    | false => exact td_rng1 a0 n cap vs xss r0 r1 r2 w h hm hmm hT hr
    | true =>
      cases hD : okD xss with
      | false => exact td_rng2 a0 n cap vs xss r0 r1 r2 w h hm hmm hT hr hD
      | true => exact td_go a0 n cap vs xss r0 r1 r2 w h hm hmm hT hr hD
theorem argss_len {w : World} {a : Option Addr} {len : Nat} {rs : List Rw4} (h : ArgSS w a len rs) (i : Nat) (hi : i < len) : (rs.getD i rw0).2.1 ≤ maxLen := by
  obtain ⟨b, off, _, _, hc⟩ := h.2 (by omega)
  rcases (hc i hi).2 with ⟨_, h0, _⟩ | ⟨x, _, hl, hm, _⟩
  · rw [h0]; omega
  · omega
theorem valSS_bd {rs : List Rw4} {m : Nat} (h : ∀ i, i < rs.length → (rs.getD i rw0).2.1 ≤ m) (i : Nat) : ((valSS rs).getD i []).length ≤ m := by
  by_cases hi : i < rs.length
  · rw [valSS_at rs i hi, List.length_take]
    have := h i hi
    omega
  · have : (valSS rs).getD i [] = [] := by simp [valSS, List.getD, List.getElem?_eq_none (show rs.length ≤ i by omega)]
    rw [this]; simp
set_option maxHeartbeats 8000000 in
theorem walkFnExactTripleOfDigits (a : Option Addr) (len cap : Nat) (rs : List Rw4) (r0 r1 r2 : Int) (wx0 : (Lit.int .i64 r0).wf = true) (wx1 : (Lit.int .i64 r1).wf = true) (wx2 : (Lit.int .i64 r2).wf = true) (w : World) (h : ArgSS w a len rs ∧ len ≤ maxLen) :
    Calls Try.prog 3 #[.slice a len cap, .agg #[.int .i64 r0, .int .i64 r1, .int .i64 r2]] w fun e w' => e = .returned (.bool true) ∧ Below w.heap.size w w' := by
  clear wx0 wx1 wx2
  have hlen := h.2
  have HA := Lib.hid h.1
  have HMM : Hid (∀ i, i < len → (rs.getD i rw0).2.1 ≤ maxLen) := fun i hi => argss_len h.1 i hi
  clear h
  obtain ⟨GQ, hG⟩ : ∃ G, w.heap.size = G := ⟨_, rfl⟩
  have HG := Lib.hid hG
  go_enter Try.func3, Try.ntmps3
  go_upto_region 1 with fail
  obtain ⟨w0, hw0⟩ : ∃ w0, w0 = (w.alloc (.cells #[.int .i64 r0, .int .i64 r1, .int .i64 r2] 23)) := ⟨_, rfl⟩
  rw [← hw0]
  have HQ : Hid (Bk3 w0 GQ r0 r1 r2) := by
    have h := (bk3_new w r0 r1 r2 23).below (W' := (w.alloc (.cells #[.int .i64 r0, .int .i64 r1, .int .i64 r2] 23))) (by (repeat' (first | (with_reducible exact Below.refl _ _) | (with_reducible refine Below.alloc ?_ ?_ _) | (with_reducible refine Below.setCell ?_ ?_ _) | (with_reducible refine Below.drew ?_) | (with_reducible refine below_drewN ?_ _) | (with_reducible assumption) | (with_reducible refine below_after (by with_reducible assumption) ?_) | go_size)))
    (try simp only [World.size_alloc] at h)
    rw [hG] at h
    rw [hw0]; exact h
  have HB : Hid (Below w.heap.size w w0) := by show Below w.heap.size w w0; rw [hw0]; (repeat' (first | (with_reducible exact Below.refl _ _) | (with_reducible refine Below.alloc ?_ ?_ _) | (with_reducible refine Below.setCell ?_ ?_ _) | (with_reducible refine Below.drew ?_) | (with_reducible refine below_drewN ?_ _) | (with_reducible assumption) | (with_reducible refine below_after (by with_reducible assumption) ?_) | go_size))
  clear hw0
  have le_Q : w.heap.size ≤ GQ := by omega
  obtain ⟨⟨qQ0, qQ1, qQ2⟩, ⟨fQ0, fQ1, fQ2⟩, zQ⟩ := HQ.out
  go_wp2_with fail
  go_at_call 4
  refine (szInt64SS_any a len cap rs w0 (HA.out.below HB.out) hlen HMM.out).mono ?_
  rintro e wx ⟨r, rfl, hr, rfl⟩
  clear qQ0 fQ0 qQ1 fQ1 qQ2 fQ2 zQ
  by_cases hneg : r < 0
  · go_wp2
    go_ret
    have hb := HB.out
    exact ⟨rfl, by (repeat' (first | (with_reducible exact Below.refl _ _) | (with_reducible refine Below.alloc ?_ ?_ _) | (with_reducible refine Below.setCell ?_ ?_ _) | (with_reducible refine Below.drew ?_) | (with_reducible refine below_drewN ?_ _) | (with_reducible assumption) | (with_reducible refine below_after (by with_reducible assumption) ?_) | go_size))⟩
  obtain ⟨hm, hmm⟩ := hr (by omega)
  have HTO : Hid (∀ W, Below w.heap.size w W → Calls Try.prog 6 #[.slice a len cap] W fun e w' => ∃ v vs, e = .returned v ∧ OwnSS W.heap.size w' v vs (valSS rs) ∧ Below W.heap.size W w') := fun W hW => toInt64SS_any a len cap rs W (HA.out.below hW) hm hmm
  have hN : (valSS rs).length = len := by rw [valSS_len]; exact HA.out.1
  have hbd : ∀ i, ((valSS rs).getD i []).length ≤ 1048576 := valSS_bd (fun i hi => hmm i (by have := HA.out.1; omega))
  have HSP := Lib.hid (fun (W : World) (a1 : Option Addr) (c1 : Nat) (vs : List Value) (hrd : RdSS W a1 (valSS rs).length vs (valSS rs)) => spec_TripleOfDigits_any a1 (valSS rs).length c1 vs (valSS rs) r0 r1 r2 W hrd (by omega) (fun i _ => hbd i))
  have HIM := Lib.hid (fun (W : World) (a1 : Option Addr) (c1 : Nat) (vs : List Value) (hrd : RdSS W a1 (valSS rs).length vs (valSS rs)) => impl_TripleOfDigits_any a1 (valSS rs).length c1 vs (valSS rs) r0 r1 r2 W hrd (by omega) (fun i _ => hbd i))
  have HX : Hid ((valSS rs).length ≤ 140737488351232) := by show _ ≤ _; omega
  have HXX : Hid (∀ i, ((valSS rs).getD i []).length ≤ 140737488351232) := fun i => by have := hbd i; omega
  obtain ⟨X, Y, Z, K0, hRV⟩ : ∃ X Y Z K0 : Int, tdR (valSS rs) r0 r1 r2 = .tuple #[.agg #[.int .i64 X, .int .i64 Y, .int .i64 Z], .int .i64 K0] := ⟨_, _, _, _, rfl⟩
  rw [hRV] at HSP HIM
  clear hRV hr hmm hbd hN hm hlen HMM
  have HXX : Hid (∀ W, Below w0.heap.size w0 W → Bk3 W GQ r0 r1 r2) := fun W hW => HQ.out.below hW
  go_wp2_with fail
  refine wp_region_held_drew (S := fun W => Below w0.heap.size w0 W) (by kernel_rfl) ?_ (fun hHeld => ?_); focus ((try dsimp only); exact (Below.refl _ _).drew)
  have HQ := Lib.hid (HQ.out.below (Below.drew (Below.refl _ _)))
  have hHeld : Below w0.heap.size w0 _ := hHeld
  obtain ⟨wD20, hwD20⟩ : ∃ wD, w0.drew = wD := ⟨_, rfl⟩
  rw [hwD20] at hHeld HQ ⊢
  clear hwD20
  (refine wpAnyH_take (i := 0) (v := ?_) rfl (by kernel_rfl) (by kernel_rfl) (by kernel_rfl) (fun _ _ _ h => h) (Or.inl ⟨rfl, ?_⟩) (by assumption) ?_; rotate_left; focus (intro W hSw; (try dsimp only at hSw); have hxx := HXX.out _ hSw; have hxQ := hxx; obtain ⟨⟨iQ0, iQ1, iQ2⟩, _, _⟩ := hxQ; go_simp; try (with_reducible rfl))); (try simp only [Act.put, List.getElem_toArray, List.getElem_cons_succ, List.getElem_cons_zero, List.setIfInBounds_toArray, List.set_cons_zero, List.set_cons_succ])
  (refine wpAnyH_take (i := 2) (v := ?_) rfl (by kernel_rfl) (by kernel_rfl) (by kernel_rfl) (fun _ _ _ h => h) (Or.inl ⟨rfl, ?_⟩) (by assumption) ?_; rotate_left; focus (intro W hSw; (try dsimp only at hSw); have hxx := HXX.out _ hSw; have hxQ := hxx; obtain ⟨⟨iQ0, iQ1, iQ2⟩, _, _⟩ := hxQ; go_simp; try (with_reducible rfl))); (try simp only [Act.put, List.getElem_toArray, List.getElem_cons_succ, List.getElem_cons_zero, List.setIfInBounds_toArray, List.set_cons_zero, List.set_cons_succ])
  refine wpAnyH_ready (rs := [1, 8]) (by kernel_rfl) (by simp) ?_; refine AllReadyH.cons rfl (fun K hK => ?_) (AllReadyH.cons rfl (fun K hK => ?_) AllReadyH.nil)
  · skip
    go_simp; (go_at_call 6; refine (HTO.out _ (HB.out.trans (hHeld.mono HB.out.size))).mono ?_; rintro en ywr20x0 ⟨V1, vs1, rfl, hO1, hb2⟩); obtain ⟨a1, c1, hV1, hrd1⟩ := hO1.rd; subst hV1; have HRD1 := Lib.hid hrd1; clear hO1 hrd1; have HQ := Lib.hid (HQ.out.below hb2); refine hK.out _ _ (below_after hb2 hHeld) (fun hHeld2 => ?_); clear hb2; (clear hHeld; rename _ => hHeld; clear hK K; have hHeld : Below w0.heap.size w0 _ := hHeld); (try simp only [Act.put, List.getElem_toArray, List.getElem_cons_succ, List.getElem_cons_zero, List.setIfInBounds_toArray, List.set_cons_zero, List.set_cons_succ])
    refine wpAnyH_ready (rs := [3, 8]) (by kernel_rfl) (by simp) ?_; refine AllReadyH.cons rfl (fun K hK => ?_) (AllReadyH.cons rfl (fun K hK => ?_) AllReadyH.nil)
    · skip
      go_simp; (go_at_call 7; refine (toTriple_any _ _ _ _).mono ?_; rintro en ywr20x1 ⟨rfl, hb2⟩); have HQ := Lib.hid (HQ.out.below hb2); have HRD1 := Lib.hid (HRD1.out.below hb2); refine hK.out _ _ (below_after hb2 hHeld) (fun hHeld2 => ?_); clear hb2; (clear hHeld; rename _ => hHeld; clear hK K; have hHeld : Below w0.heap.size w0 _ := hHeld); (try simp only [Act.put, List.getElem_toArray, List.getElem_cons_succ, List.getElem_cons_zero, List.setIfInBounds_toArray, List.set_cons_zero, List.set_cons_succ])
      refine wpAnyH_ready (rs := [4, 8]) (by kernel_rfl) (by simp) ?_; refine AllReadyH.cons rfl (fun K hK => ?_) (AllReadyH.cons rfl (fun K hK => ?_) AllReadyH.nil)
      · skip
        go_simp; (go_at_call 5; refine (HSP.out _ a1 c1 vs1 HRD1.out).mono ?_; rintro en ywr20x2 ⟨rfl, hb2⟩); have HQ := Lib.hid (HQ.out.below hb2); have HRD1 := Lib.hid (HRD1.out.below hb2); refine hK.out _ _ (below_after hb2 hHeld) (fun hHeld2 => ?_); clear hb2; (clear hHeld; rename _ => hHeld; clear hK K; have hHeld : Below w0.heap.size w0 _ := hHeld); (try simp only [Act.put, List.getElem_toArray, List.getElem_cons_succ, List.getElem_cons_zero, List.setIfInBounds_toArray, List.set_cons_zero, List.set_cons_succ])
        (refine wpAnyH_take (i := 5) (v := ?_) rfl (by kernel_rfl) (by kernel_rfl) (by kernel_rfl) (fun _ _ _ h => h) (Or.inl ⟨rfl, ?_⟩) (by assumption) ?_; rotate_left; focus (intro W hSw; (try dsimp only at hSw); have hxx := HXX.out _ hSw; have hxQ := hxx; obtain ⟨⟨iQ0, iQ1, iQ2⟩, _, _⟩ := hxQ; go_simp; try (with_reducible rfl))); (try simp only [Act.put, List.getElem_toArray, List.getElem_cons_succ, List.getElem_cons_zero, List.setIfInBounds_toArray, List.set_cons_zero, List.set_cons_succ])
        (refine wpAnyH_take (i := 6) (v := ?_) rfl (by kernel_rfl) (by kernel_rfl) (by kernel_rfl) (fun _ _ _ h => h) (Or.inl ⟨rfl, ?_⟩) (by assumption) ?_; rotate_left; focus (intro W hSw; (try dsimp only at hSw); have hxx := HXX.out _ hSw; have hxQ := hxx; obtain ⟨⟨iQ0, iQ1, iQ2⟩, _, _⟩ := hxQ; go_simp; try (with_reducible rfl))); (try simp only [Act.put, List.getElem_toArray, List.getElem_cons_succ, List.getElem_cons_zero, List.setIfInBounds_toArray, List.set_cons_zero, List.set_cons_succ])
        (refine wpAnyH_take (i := 7) (v := ?_) rfl (by kernel_rfl) (by kernel_rfl) (by kernel_rfl) (fun _ _ _ h => h) (Or.inl ⟨rfl, ?_⟩) (by assumption) ?_; rotate_left; focus (intro W hSw; (try dsimp only at hSw); have hxx := HXX.out _ hSw; have hxQ := hxx; obtain ⟨⟨iQ0, iQ1, iQ2⟩, _, _⟩ := hxQ; go_simp; try (with_reducible rfl))); (try simp only [Act.put, List.getElem_toArray, List.getElem_cons_succ, List.getElem_cons_zero, List.setIfInBounds_toArray, List.set_cons_zero, List.set_cons_succ])
        refine wpAnyH_ready (rs := [8]) (by kernel_rfl) (by simp) ?_; refine AllReadyH.cons rfl (fun K hK => ?_) AllReadyH.nil
        go_simp; obtain ⟨GM, hGM⟩ : ∃ G, ywr20x2.heap.size = G := ⟨_, rfl⟩; have le_M : w0.heap.size ≤ GM := by rw [← hGM]; exact Below.size hHeld
        have ne_M_Q : GM ≠ GQ := by have := HQ.out.2.2; omega
        have ne_Q_M : GQ ≠ GM := Ne.symm ne_M_Q
        have HQ := Lib.hid (HQ.out.below ((Below.refl _ _).alloc (Nat.le_refl _) (.cells #[.int .i64 0, .int .i64 0, .int .i64 0] 25))); have HRD1 := Lib.hid (HRD1.out.below ((Below.refl _ _).alloc (Nat.le_refl _) (.cells #[.int .i64 0, .int .i64 0, .int .i64 0] 25))); skip
        have HM : Hid (Bk3 (ywr20x2.alloc (.cells #[.int .i64 0, .int .i64 0, .int .i64 0] 25)) GM 0 0 0) := by rw [← hGM]; exact bk3_new ywr20x2 0 0 0 _
        refine hK.out _ _ (Below.alloc hHeld (Below.size hHeld) _) (fun hHeld2 => ?_); (clear hHeld; rename _ => hHeld; clear hK K; have hHeld : Below w0.heap.size w0 _ := hHeld); (try simp only [Act.put, List.getElem_toArray, List.getElem_cons_succ, List.getElem_cons_zero, List.setIfInBounds_toArray, List.set_cons_zero, List.set_cons_succ])
        rw [hGM]; clear hGM; obtain ⟨ywr20x3, hwx⟩ : ∃ wx, ywr20x2.alloc (.cells #[.int .i64 0, .int .i64 0, .int .i64 0] 25) = wx := ⟨_, rfl⟩; rw [hwx] at HQ HRD1 HM hHeld ⊢; clear hwx
        refine wpAnyH_ready (rs := [9]) (by kernel_rfl) (by simp) ?_; refine AllReadyH.cons rfl (fun K hK => ?_) AllReadyH.nil
        obtain ⟨⟨a0, a1, a2⟩, ⟨f0, f1, f2⟩, az⟩ := HM.out; go_simp; clear a0 f0 a1 f1 a2 f2 az
        have HQ := Lib.hid (((HQ.out.far ⟨GM, 0, none⟩ (.int .i64 X) (by show GQ ≠ GM; exact ne_Q_M)).far ⟨GM, 1, none⟩ (.int .i64 Y) (by show GQ ≠ GM; exact ne_Q_M)).far ⟨GM, 2, none⟩ (.int .i64 Z) (by show GQ ≠ GM; exact ne_Q_M))
        have HM := Lib.hid (((HM.out.set0 X).set1 Y).set2 Z)
        refine hK.out _ _ (Below.setCell (Below.setCell (Below.setCell hHeld (p := ⟨GM, 0, none⟩) le_M _) (p := ⟨GM, 1, none⟩) le_M _) (p := ⟨GM, 2, none⟩) le_M _) (fun hHeld2 => ?_); (clear hHeld; rename _ => hHeld; clear hK K; have hHeld : Below w0.heap.size w0 _ := hHeld); (try simp only [Act.put, List.getElem_toArray, List.getElem_cons_succ, List.getElem_cons_zero, List.setIfInBounds_toArray, List.set_cons_zero, List.set_cons_succ])
        obtain ⟨ywr20x4, hwx⟩ : ∃ wx, ((ywr20x3.setCell ⟨GM, 0, none⟩ (.int .i64 X)).setCell ⟨GM, 1, none⟩ (.int .i64 Y)).setCell ⟨GM, 2, none⟩ (.int .i64 Z) = wx := ⟨_, rfl⟩; rw [hwx] at HQ HM hHeld ⊢; clear hwx
        (refine wpAnyH_take (i := 10) (v := ?_) rfl (by kernel_rfl) (by kernel_rfl) (by kernel_rfl) (fun _ _ _ h => h) (Or.inl ⟨rfl, ?_⟩) (by assumption) ?_; rotate_left; focus (intro W hSw; (try dsimp only at hSw); have hxx := HXX.out _ hSw; have hxQ := hxx; obtain ⟨⟨iQ0, iQ1, iQ2⟩, _, _⟩ := hxQ; go_simp; try (with_reducible rfl))); (try simp only [Act.put, List.getElem_toArray, List.getElem_cons_succ, List.getElem_cons_zero, List.setIfInBounds_toArray, List.set_cons_zero, List.set_cons_succ])
        refine wpAnyH_done (by kernel_rfl) ?_ _
        have le_M : w.heap.size ≤ GM := Nat.le_trans HB.out.size le_M
        have HB := Lib.hid (HB.out.trans (hHeld.mono HB.out.size))
        clear hHeld HXX
        obtain ⟨⟨qQ0, qQ1, qQ2⟩, ⟨fQ0, fQ1, fQ2⟩, zQ⟩ := HQ.out
        obtain ⟨⟨qM0, qM1, qM2⟩, ⟨fM0, fM1, fM2⟩, zM⟩ := HM.out
        go_wp2_with fail
        go_at_call 6
        refine (HTO.out _ HB.out).mono ?_
        rintro e w71 ⟨V2, vs2, rfl, hO2, hb⟩
        clear qQ0 fQ0 qQ1 fQ1 qQ2 fQ2 zQ qM0 fM0 qM1 fM1 qM2 fM2 zM
        have HQ := Lib.hid (HQ.out.below hb)
        have HM := Lib.hid (HM.out.below hb)
        have HB := Lib.hid (below_after hb HB.out)
        clear hb
        obtain ⟨a2, c2, hV2, hrd2⟩ := hO2.rd
        subst hV2
        have HO2 := Lib.hid hO2
        have HRD2 := Lib.hid hrd2
        clear hO2 hrd2
        obtain ⟨⟨qQ0, qQ1, qQ2⟩, ⟨fQ0, fQ1, fQ2⟩, zQ⟩ := HQ.out
        obtain ⟨⟨qM0, qM1, qM2⟩, ⟨fM0, fM1, fM2⟩, zM⟩ := HM.out
        go_wp2_with fail
        go_at_call 7
        refine (toTriple_any _ _ _ _).mono ?_
        rintro e w72 ⟨rfl, hb⟩
        clear qQ0 fQ0 qQ1 fQ1 qQ2 fQ2 zQ qM0 fM0 qM1 fM1 qM2 fM2 zM
        have HQ := Lib.hid (HQ.out.below hb)
        have HM := Lib.hid (HM.out.below hb)
        have HO2 := Lib.hid (HO2.out.below hb)
        have HRD2 := Lib.hid (HRD2.out.below hb)
        have HB := Lib.hid (below_after hb HB.out)
        clear hb
        obtain ⟨⟨qQ0, qQ1, qQ2⟩, ⟨fQ0, fQ1, fQ2⟩, zQ⟩ := HQ.out
        obtain ⟨⟨qM0, qM1, qM2⟩, ⟨fM0, fM1, fM2⟩, zM⟩ := HM.out
        go_wp2_with fail
        go_at_call 8
        refine (HIM.out _ a2 c2 vs2 HRD2.out).mono ?_
        rintro e w73 ⟨rfl, hb⟩
        clear qQ0 fQ0 qQ1 fQ1 qQ2 fQ2 zQ qM0 fM0 qM1 fM1 qM2 fM2 zM
        have HQ := Lib.hid (HQ.out.below hb)
        have HM := Lib.hid (HM.out.below hb)
        have HO2 := Lib.hid (HO2.out.below hb)
        have HRD2 := Lib.hid (HRD2.out.below hb)
        have HB := Lib.hid (below_after hb HB.out)
        clear hb
        clear HRD2
        obtain ⟨⟨qQ0, qQ1, qQ2⟩, ⟨fQ0, fQ1, fQ2⟩, zQ⟩ := HQ.out
        obtain ⟨⟨qM0, qM1, qM2⟩, ⟨fM0, fM1, fM2⟩, zM⟩ := HM.out
        go_upto_region 8 with fail
        obtain ⟨GP, hGP⟩ : ∃ g, w73.heap.size = g := ⟨_, rfl⟩
        obtain ⟨w74, hw74⟩ : ∃ wx, wx = w73.alloc (.cells #[.int .i64 X, .int .i64 Y, .int .i64 Z] 25) := ⟨_, rfl⟩
        rw [← hw74, hGP]
        have HP : Hid (Bk3 w74 GP X Y Z) := by rw [hw74, ← hGP]; exact bk3_new w73 X Y Z _
        have le_P : w.heap.size ≤ GP := by rw [← hGP]; exact HB.out.size
        have ne_P_Q : GP ≠ GQ := by have := HQ.out.2.2; omega
        have ne_Q_P : GQ ≠ GP := Ne.symm ne_P_Q
        have ne_P_M : GP ≠ GM := by have := HM.out.2.2; omega
        have ne_M_P : GM ≠ GP := Ne.symm ne_P_M
        clear qQ0 fQ0 qQ1 fQ1 qQ2 fQ2 zQ qM0 fM0 qM1 fM1 qM2 fM2 zM
        have HQ := Lib.hid (HQ.out.below ((Below.refl _ _).alloc (Nat.le_refl _) (.cells #[.int .i64 X, .int .i64 Y, .int .i64 Z] 25)))
        have HM := Lib.hid (HM.out.below ((Below.refl _ _).alloc (Nat.le_refl _) (.cells #[.int .i64 X, .int .i64 Y, .int .i64 Z] 25)))
        have HO2 := Lib.hid (HO2.out.below ((Below.refl _ _).alloc (Nat.le_refl _) (.cells #[.int .i64 X, .int .i64 Y, .int .i64 Z] 25)))
        have HB := Lib.hid (Below.alloc HB.out HB.out.size (.cells #[.int .i64 X, .int .i64 Y, .int .i64 Z] 25))
        rw [← hw74] at HQ HM HO2 HB
        clear hw74 hGP
        obtain ⟨⟨qQ0, qQ1, qQ2⟩, ⟨fQ0, fQ1, fQ2⟩, zQ⟩ := HQ.out
        obtain ⟨⟨qM0, qM1, qM2⟩, ⟨fM0, fM1, fM2⟩, zM⟩ := HM.out
        obtain ⟨⟨qP0, qP1, qP2⟩, ⟨fP0, fP1, fP2⟩, zP⟩ := HP.out
        go_wp2_with fail
        go_at_call 9
        refine (eqTriple_same _ _ _ _).mono ?_
        rintro e w75 ⟨rfl, hb⟩
        clear qQ0 fQ0 qQ1 fQ1 qQ2 fQ2 zQ qM0 fM0 qM1 fM1 qM2 fM2 zM qP0 fP0 qP1 fP1 qP2 fP2 zP
        have HQ := Lib.hid (HQ.out.below hb)
        have HM := Lib.hid (HM.out.below hb)
        have HP := Lib.hid (HP.out.below hb)
        have HO2 := Lib.hid (HO2.out.below hb)
        have HB := Lib.hid (below_after hb HB.out)
        clear hb
        obtain ⟨⟨qQ0, qQ1, qQ2⟩, ⟨fQ0, fQ1, fQ2⟩, zQ⟩ := HQ.out
        obtain ⟨⟨qM0, qM1, qM2⟩, ⟨fM0, fM1, fM2⟩, zM⟩ := HM.out
        obtain ⟨⟨qP0, qP1, qP2⟩, ⟨fP0, fP1, fP2⟩, zP⟩ := HP.out
        go_wp2_with fail
        go_at_call 6
        refine (HTO.out _ HB.out).mono ?_
        rintro e w76 ⟨V3, vs3, rfl, hO3, hb⟩
        clear qQ0 fQ0 qQ1 fQ1 qQ2 fQ2 zQ qM0 fM0 qM1 fM1 qM2 fM2 zM qP0 fP0 qP1 fP1 qP2 fP2 zP
        have HQ := Lib.hid (HQ.out.below hb)
        have HM := Lib.hid (HM.out.below hb)
        have HP := Lib.hid (HP.out.below hb)
        have HO2 := Lib.hid (HO2.out.below hb)
        have HB := Lib.hid (below_after hb HB.out)
        clear hb
        have HO3 := Lib.hid hO3
        clear hO3
        obtain ⟨⟨qQ0, qQ1, qQ2⟩, ⟨fQ0, fQ1, fQ2⟩, zQ⟩ := HQ.out
        obtain ⟨⟨qM0, qM1, qM2⟩, ⟨fM0, fM1, fM2⟩, zM⟩ := HM.out
        obtain ⟨⟨qP0, qP1, qP2⟩, ⟨fP0, fP1, fP2⟩, zP⟩ := HP.out
        go_wp2_with fail
        go_at_call 10
        refine (eqInt64SS_same _ _ _ _ _ _ (valSS rs) _ HO2.out HO3.out HX.out HXX.out).mono ?_
        rintro e w77 ⟨rfl, hb⟩
        clear qQ0 fQ0 qQ1 fQ1 qQ2 fQ2 zQ qM0 fM0 qM1 fM1 qM2 fM2 zM qP0 fP0 qP1 fP1 qP2 fP2 zP
        have HQ := Lib.hid (HQ.out.below hb)
        have HM := Lib.hid (HM.out.below hb)
        have HP := Lib.hid (HP.out.below hb)
        have HO2 := Lib.hid (HO2.out.below hb)
        have HO3 := Lib.hid (HO3.out.below hb)
        have HB := Lib.hid (below_after hb HB.out)
        clear hb
        obtain ⟨⟨qQ0, qQ1, qQ2⟩, ⟨fQ0, fQ1, fQ2⟩, zQ⟩ := HQ.out
        obtain ⟨⟨qM0, qM1, qM2⟩, ⟨fM0, fM1, fM2⟩, zM⟩ := HM.out
        obtain ⟨⟨qP0, qP1, qP2⟩, ⟨fP0, fP1, fP2⟩, zP⟩ := HP.out
        go_wp2_with fail
        go_ret
        have hb := HB.out
        exact ⟨rfl, by (repeat' (first | (with_reducible exact Below.refl _ _) | (with_reducible refine Below.alloc ?_ ?_ _) | (with_reducible refine Below.setCell ?_ ?_ _) | (with_reducible refine Below.drew ?_) | (with_reducible refine below_drewN ?_ _) | (with_reducible assumption) | (with_reducible refine below_after (by with_reducible assumption) ?_) | go_size))⟩
      · skip
        go_simp; obtain ⟨GM, hGM⟩ : ∃ G, ywr20x1.heap.size = G := ⟨_, rfl⟩; have le_M : w0.heap.size ≤ GM := by rw [← hGM]; exact Below.size hHeld
        have ne_M_Q : GM ≠ GQ := by have := HQ.out.2.2; omega
        have ne_Q_M : GQ ≠ GM := Ne.symm ne_M_Q
        have HQ := Lib.hid (HQ.out.below ((Below.refl _ _).alloc (Nat.le_refl _) (.cells #[.int .i64 0, .int .i64 0, .int .i64 0] 25))); have HRD1 := Lib.hid (HRD1.out.below ((Below.refl _ _).alloc (Nat.le_refl _) (.cells #[.int .i64 0, .int .i64 0, .int .i64 0] 25))); skip
        have HM : Hid (Bk3 (ywr20x1.alloc (.cells #[.int .i64 0, .int .i64 0, .int .i64 0] 25)) GM 0 0 0) := by rw [← hGM]; exact bk3_new ywr20x1 0 0 0 _
        refine hK.out _ _ (Below.alloc hHeld (Below.size hHeld) _) (fun hHeld2 => ?_); (clear hHeld; rename _ => hHeld; clear hK K; have hHeld : Below w0.heap.size w0 _ := hHeld); (try simp only [Act.put, List.getElem_toArray, List.getElem_cons_succ, List.getElem_cons_zero, List.setIfInBounds_toArray, List.set_cons_zero, List.set_cons_succ])
        rw [hGM]; clear hGM; obtain ⟨ywr20x2, hwx⟩ : ∃ wx, ywr20x1.alloc (.cells #[.int .i64 0, .int .i64 0, .int .i64 0] 25) = wx := ⟨_, rfl⟩; rw [hwx] at HQ HRD1 HM hHeld ⊢; clear hwx
        refine wpAnyH_ready (rs := [4]) (by kernel_rfl) (by simp) ?_; refine AllReadyH.cons rfl (fun K hK => ?_) AllReadyH.nil
        go_simp; (go_at_call 5; refine (HSP.out _ a1 c1 vs1 HRD1.out).mono ?_; rintro en ywr20x3 ⟨rfl, hb2⟩); have HQ := Lib.hid (HQ.out.below hb2); have HM := Lib.hid (HM.out.below hb2); have HRD1 := Lib.hid (HRD1.out.below hb2); refine hK.out _ _ (below_after hb2 hHeld) (fun hHeld2 => ?_); clear hb2; (clear hHeld; rename _ => hHeld; clear hK K; have hHeld : Below w0.heap.size w0 _ := hHeld); (try simp only [Act.put, List.getElem_toArray, List.getElem_cons_succ, List.getElem_cons_zero, List.setIfInBounds_toArray, List.set_cons_zero, List.set_cons_succ])
        (refine wpAnyH_take (i := 5) (v := ?_) rfl (by kernel_rfl) (by kernel_rfl) (by kernel_rfl) (fun _ _ _ h => h) (Or.inl ⟨rfl, ?_⟩) (by assumption) ?_; rotate_left; focus (intro W hSw; (try dsimp only at hSw); have hxx := HXX.out _ hSw; have hxQ := hxx; obtain ⟨⟨iQ0, iQ1, iQ2⟩, _, _⟩ := hxQ; go_simp; try (with_reducible rfl))); (try simp only [Act.put, List.getElem_toArray, List.getElem_cons_succ, List.getElem_cons_zero, List.setIfInBounds_toArray, List.set_cons_zero, List.set_cons_succ])
        (refine wpAnyH_take (i := 6) (v := ?_) rfl (by kernel_rfl) (by kernel_rfl) (by kernel_rfl) (fun _ _ _ h => h) (Or.inl ⟨rfl, ?_⟩) (by assumption) ?_; rotate_left; focus (intro W hSw; (try dsimp only at hSw); have hxx := HXX.out _ hSw; have hxQ := hxx; obtain ⟨⟨iQ0, iQ1, iQ2⟩, _, _⟩ := hxQ; go_simp; try (with_reducible rfl))); (try simp only [Act.put, List.getElem_toArray, List.getElem_cons_succ, List.getElem_cons_zero, List.setIfInBounds_toArray, List.set_cons_zero, List.set_cons_succ])
        (refine wpAnyH_take (i := 7) (v := ?_) rfl (by kernel_rfl) (by kernel_rfl) (by kernel_rfl) (fun _ _ _ h => h) (Or.inl ⟨rfl, ?_⟩) (by assumption) ?_; rotate_left; focus (intro W hSw; (try dsimp only at hSw); have hxx := HXX.out _ hSw; have hxQ := hxx; obtain ⟨⟨iQ0, iQ1, iQ2⟩, _, _⟩ := hxQ; go_simp; try (with_reducible rfl))); (try simp only [Act.put, List.getElem_toArray, List.getElem_cons_succ, List.getElem_cons_zero, List.setIfInBounds_toArray, List.set_cons_zero, List.set_cons_succ])
        refine wpAnyH_ready (rs := [9]) (by kernel_rfl) (by simp) ?_; refine AllReadyH.cons rfl (fun K hK => ?_) AllReadyH.nil
        obtain ⟨⟨a0, a1, a2⟩, ⟨f0, f1, f2⟩, az⟩ := HM.out; go_simp; clear a0 f0 a1 f1 a2 f2 az
        have HQ := Lib.hid (((HQ.out.far ⟨GM, 0, none⟩ (.int .i64 X) (by show GQ ≠ GM; exact ne_Q_M)).far ⟨GM, 1, none⟩ (.int .i64 Y) (by show GQ ≠ GM; exact ne_Q_M)).far ⟨GM, 2, none⟩ (.int .i64 Z) (by show GQ ≠ GM; exact ne_Q_M))
        have HM := Lib.hid (((HM.out.set0 X).set1 Y).set2 Z)
        refine hK.out _ _ (Below.setCell (Below.setCell (Below.setCell hHeld (p := ⟨GM, 0, none⟩) le_M _) (p := ⟨GM, 1, none⟩) le_M _) (p := ⟨GM, 2, none⟩) le_M _) (fun hHeld2 => ?_); (clear hHeld; rename _ => hHeld; clear hK K; have hHeld : Below w0.heap.size w0 _ := hHeld); (try simp only [Act.put, List.getElem_toArray, List.getElem_cons_succ, List.getElem_cons_zero, List.setIfInBounds_toArray, List.set_cons_zero, List.set_cons_succ])
        obtain ⟨ywr20x4, hwx⟩ : ∃ wx, ((ywr20x3.setCell ⟨GM, 0, none⟩ (.int .i64 X)).setCell ⟨GM, 1, none⟩ (.int .i64 Y)).setCell ⟨GM, 2, none⟩ (.int .i64 Z) = wx := ⟨_, rfl⟩; rw [hwx] at HQ HM hHeld ⊢; clear hwx
        (refine wpAnyH_take (i := 10) (v := ?_) rfl (by kernel_rfl) (by kernel_rfl) (by kernel_rfl) (fun _ _ _ h => h) (Or.inl ⟨rfl, ?_⟩) (by assumption) ?_; rotate_left; focus (intro W hSw; (try dsimp only at hSw); have hxx := HXX.out _ hSw; have hxQ := hxx; obtain ⟨⟨iQ0, iQ1, iQ2⟩, _, _⟩ := hxQ; go_simp; try (with_reducible rfl))); (try simp only [Act.put, List.getElem_toArray, List.getElem_cons_succ, List.getElem_cons_zero, List.setIfInBounds_toArray, List.set_cons_zero, List.set_cons_succ])
        refine wpAnyH_done (by kernel_rfl) ?_ _
        have le_M : w.heap.size ≤ GM := Nat.le_trans HB.out.size le_M
        have HB := Lib.hid (HB.out.trans (hHeld.mono HB.out.size))
        clear hHeld HXX
        obtain ⟨⟨qQ0, qQ1, qQ2⟩, ⟨fQ0, fQ1, fQ2⟩, zQ⟩ := HQ.out
        obtain ⟨⟨qM0, qM1, qM2⟩, ⟨fM0, fM1, fM2⟩, zM⟩ := HM.out
        go_wp2_with fail
        go_at_call 6
        refine (HTO.out _ HB.out).mono ?_
        rintro e w71 ⟨V2, vs2, rfl, hO2, hb⟩
        clear qQ0 fQ0 qQ1 fQ1 qQ2 fQ2 zQ qM0 fM0 qM1 fM1 qM2 fM2 zM
        have HQ := Lib.hid (HQ.out.below hb)
        have HM := Lib.hid (HM.out.below hb)
        have HB := Lib.hid (below_after hb HB.out)
        clear hb
        obtain ⟨a2, c2, hV2, hrd2⟩ := hO2.rd
        subst hV2
        have HO2 := Lib.hid hO2
        have HRD2 := Lib.hid hrd2
        clear hO2 hrd2
        obtain ⟨⟨qQ0, qQ1, qQ2⟩, ⟨fQ0, fQ1, fQ2⟩, zQ⟩ := HQ.out
        obtain ⟨⟨qM0, qM1, qM2⟩, ⟨fM0, fM1, fM2⟩, zM⟩ := HM.out
        go_wp2_with fail
        go_at_call 7
        refine (toTriple_any _ _ _ _).mono ?_
        rintro e w72 ⟨rfl, hb⟩
        clear qQ0 fQ0 qQ1 fQ1 qQ2 fQ2 zQ qM0 fM0 qM1 fM1 qM2 fM2 zM
        have HQ := Lib.hid (HQ.out.below hb)
        have HM := Lib.hid (HM.out.below hb)
        have HO2 := Lib.hid (HO2.out.below hb)
        have HRD2 := Lib.hid (HRD2.out.below hb)
        have HB := Lib.hid (below_after hb HB.out)
        clear hb
        obtain ⟨⟨qQ0, qQ1, qQ2⟩, ⟨fQ0, fQ1, fQ2⟩, zQ⟩ := HQ.out
        obtain ⟨⟨qM0, qM1, qM2⟩, ⟨fM0, fM1, fM2⟩, zM⟩ := HM.out
        go_wp2_with fail
        go_at_call 8
        refine (HIM.out _ a2 c2 vs2 HRD2.out).mono ?_
        rintro e w73 ⟨rfl, hb⟩
        clear qQ0 fQ0 qQ1 fQ1 qQ2 fQ2 zQ qM0 fM0 qM1 fM1 qM2 fM2 zM
        have HQ := Lib.hid (HQ.out.below hb)
        have HM := Lib.hid (HM.out.below hb)
        have HO2 := Lib.hid (HO2.out.below hb)
        have HRD2 := Lib.hid (HRD2.out.below hb)
        have HB := Lib.hid (below_after hb HB.out)
        clear hb
        clear HRD2
        obtain ⟨⟨qQ0, qQ1, qQ2⟩, ⟨fQ0, fQ1, fQ2⟩, zQ⟩ := HQ.out
        obtain ⟨⟨qM0, qM1, qM2⟩, ⟨fM0, fM1, fM2⟩, zM⟩ := HM.out
        go_upto_region 8 with fail
        obtain ⟨GP, hGP⟩ : ∃ g, w73.heap.size = g := ⟨_, rfl⟩
        obtain ⟨w74, hw74⟩ : ∃ wx, wx = w73.alloc (.cells #[.int .i64 X, .int .i64 Y, .int .i64 Z] 25) := ⟨_, rfl⟩
        rw [← hw74, hGP]
        have HP : Hid (Bk3 w74 GP X Y Z) := by rw [hw74, ← hGP]; exact bk3_new w73 X Y Z _
        have le_P : w.heap.size ≤ GP := by rw [← hGP]; exact HB.out.size
        have ne_P_Q : GP ≠ GQ := by have := HQ.out.2.2; omega
        have ne_Q_P : GQ ≠ GP := Ne.symm ne_P_Q
        have ne_P_M : GP ≠ GM := by have := HM.out.2.2; omega
        have ne_M_P : GM ≠ GP := Ne.symm ne_P_M
        clear qQ0 fQ0 qQ1 fQ1 qQ2 fQ2 zQ qM0 fM0 qM1 fM1 qM2 fM2 zM
        have HQ := Lib.hid (HQ.out.below ((Below.refl _ _).alloc (Nat.le_refl _) (.cells #[.int .i64 X, .int .i64 Y, .int .i64 Z] 25)))
        have HM := Lib.hid (HM.out.below ((Below.refl _ _).alloc (Nat.le_refl _) (.cells #[.int .i64 X, .int .i64 Y, .int .i64 Z] 25)))
        have HO2 := Lib.hid (HO2.out.below ((Below.refl _ _).alloc (Nat.le_refl _) (.cells #[.int .i64 X, .int .i64 Y, .int .i64 Z] 25)))
        have HB := Lib.hid (Below.alloc HB.out HB.out.size (.cells #[.int .i64 X, .int .i64 Y, .int .i64 Z] 25))
        rw [← hw74] at HQ HM HO2 HB
        clear hw74 hGP
        obtain ⟨⟨qQ0, qQ1, qQ2⟩, ⟨fQ0, fQ1, fQ2⟩, zQ⟩ := HQ.out
        obtain ⟨⟨qM0, qM1, qM2⟩, ⟨fM0, fM1, fM2⟩, zM⟩ := HM.out
        obtain ⟨⟨qP0, qP1, qP2⟩, ⟨fP0, fP1, fP2⟩, zP⟩ := HP.out
        go_wp2_with fail
        go_at_call 9
        refine (eqTriple_same _ _ _ _).mono ?_
        rintro e w75 ⟨rfl, hb⟩
        clear qQ0 fQ0 qQ1 fQ1 qQ2 fQ2 zQ qM0 fM0 qM1 fM1 qM2 fM2 zM qP0 fP0 qP1 fP1 qP2 fP2 zP
        have HQ := Lib.hid (HQ.out.below hb)
        have HM := Lib.hid (HM.out.below hb)
        have HP := Lib.hid (HP.out.below hb)
        have HO2 := Lib.hid (HO2.out.below hb)
        have HB := Lib.hid (below_after hb HB.out)
        clear hb
        obtain ⟨⟨qQ0, qQ1, qQ2⟩, ⟨fQ0, fQ1, fQ2⟩, zQ⟩ := HQ.out
        obtain ⟨⟨qM0, qM1, qM2⟩, ⟨fM0, fM1, fM2⟩, zM⟩ := HM.out
        obtain ⟨⟨qP0, qP1, qP2⟩, ⟨fP0, fP1, fP2⟩, zP⟩ := HP.out
        go_wp2_with fail
        go_at_call 6
        refine (HTO.out _ HB.out).mono ?_
        rintro e w76 ⟨V3, vs3, rfl, hO3, hb⟩
        clear qQ0 fQ0 qQ1 fQ1 qQ2 fQ2 zQ qM0 fM0 qM1 fM1 qM2 fM2 zM qP0 fP0 qP1 fP1 qP2 fP2 zP
        have HQ := Lib.hid (HQ.out.below hb)
        have HM := Lib.hid (HM.out.below hb)
        have HP := Lib.hid (HP.out.below hb)
        have HO2 := Lib.hid (HO2.out.below hb)
        have HB := Lib.hid (below_after hb HB.out)
        clear hb
        have HO3 := Lib.hid hO3
        clear hO3
        obtain ⟨⟨qQ0, qQ1, qQ2⟩, ⟨fQ0, fQ1, fQ2⟩, zQ⟩ := HQ.out
        obtain ⟨⟨qM0, qM1, qM2⟩, ⟨fM0, fM1, fM2⟩, zM⟩ := HM.out
        obtain ⟨⟨qP0, qP1, qP2⟩, ⟨fP0, fP1, fP2⟩, zP⟩ := HP.out
        go_wp2_with fail
        go_at_call 10
        refine (eqInt64SS_same _ _ _ _ _ _ (valSS rs) _ HO2.out HO3.out HX.out HXX.out).mono ?_
        rintro e w77 ⟨rfl, hb⟩
        clear qQ0 fQ0 qQ1 fQ1 qQ2 fQ2 zQ qM0 fM0 qM1 fM1 qM2 fM2 zM qP0 fP0 qP1 fP1 qP2 fP2 zP
        have HQ := Lib.hid (HQ.out.below hb)
        have HM := Lib.hid (HM.out.below hb)
        have HP := Lib.hid (HP.out.below hb)
        have HO2 := Lib.hid (HO2.out.below hb)
        have HO3 := Lib.hid (HO3.out.below hb)
        have HB := Lib.hid (below_after hb HB.out)
        clear hb
        obtain ⟨⟨qQ0, qQ1, qQ2⟩, ⟨fQ0, fQ1, fQ2⟩, zQ⟩ := HQ.out
        obtain ⟨⟨qM0, qM1, qM2⟩, ⟨fM0, fM1, fM2⟩, zM⟩ := HM.out
        obtain ⟨⟨qP0, qP1, qP2⟩, ⟨fP0, fP1, fP2⟩, zP⟩ := HP.out
        go_wp2_with fail
        go_ret
        have hb := HB.out
        exact ⟨rfl, by (repeat' (first | (with_reducible exact Below.refl _ _) | (with_reducible refine Below.alloc ?_ ?_ _) | (with_reducible refine Below.setCell ?_ ?_ _) | (with_reducible refine Below.drew ?_) | (with_reducible refine below_drewN ?_ _) | (with_reducible assumption) | (with_reducible refine below_after (by with_reducible assumption) ?_) | go_size))⟩
    · skip
      go_simp; obtain ⟨GM, hGM⟩ : ∃ G, ywr20x0.heap.size = G := ⟨_, rfl⟩; have le_M : w0.heap.size ≤ GM := by rw [← hGM]; exact Below.size hHeld
      have ne_M_Q : GM ≠ GQ := by have := HQ.out.2.2; omega
      have ne_Q_M : GQ ≠ GM := Ne.symm ne_M_Q
      have HQ := Lib.hid (HQ.out.below ((Below.refl _ _).alloc (Nat.le_refl _) (.cells #[.int .i64 0, .int .i64 0, .int .i64 0] 25))); have HRD1 := Lib.hid (HRD1.out.below ((Below.refl _ _).alloc (Nat.le_refl _) (.cells #[.int .i64 0, .int .i64 0, .int .i64 0] 25))); skip
      have HM : Hid (Bk3 (ywr20x0.alloc (.cells #[.int .i64 0, .int .i64 0, .int .i64 0] 25)) GM 0 0 0) := by rw [← hGM]; exact bk3_new ywr20x0 0 0 0 _
      refine hK.out _ _ (Below.alloc hHeld (Below.size hHeld) _) (fun hHeld2 => ?_); (clear hHeld; rename _ => hHeld; clear hK K; have hHeld : Below w0.heap.size w0 _ := hHeld); (try simp only [Act.put, List.getElem_toArray, List.getElem_cons_succ, List.getElem_cons_zero, List.setIfInBounds_toArray, List.set_cons_zero, List.set_cons_succ])
      rw [hGM]; clear hGM; obtain ⟨ywr20x1, hwx⟩ : ∃ wx, ywr20x0.alloc (.cells #[.int .i64 0, .int .i64 0, .int .i64 0] 25) = wx := ⟨_, rfl⟩; rw [hwx] at HQ HRD1 HM hHeld ⊢; clear hwx
      refine wpAnyH_ready (rs := [3]) (by kernel_rfl) (by simp) ?_; refine AllReadyH.cons rfl (fun K hK => ?_) AllReadyH.nil
      go_simp; (go_at_call 7; refine (toTriple_any _ _ _ _).mono ?_; rintro en ywr20x2 ⟨rfl, hb2⟩); have HQ := Lib.hid (HQ.out.below hb2); have HM := Lib.hid (HM.out.below hb2); have HRD1 := Lib.hid (HRD1.out.below hb2); refine hK.out _ _ (below_after hb2 hHeld) (fun hHeld2 => ?_); clear hb2; (clear hHeld; rename _ => hHeld; clear hK K; have hHeld : Below w0.heap.size w0 _ := hHeld); (try simp only [Act.put, List.getElem_toArray, List.getElem_cons_succ, List.getElem_cons_zero, List.setIfInBounds_toArray, List.set_cons_zero, List.set_cons_succ])
      refine wpAnyH_ready (rs := [4]) (by kernel_rfl) (by simp) ?_; refine AllReadyH.cons rfl (fun K hK => ?_) AllReadyH.nil
      go_simp; (go_at_call 5; refine (HSP.out _ a1 c1 vs1 HRD1.out).mono ?_; rintro en ywr20x3 ⟨rfl, hb2⟩); have HQ := Lib.hid (HQ.out.below hb2); have HM := Lib.hid (HM.out.below hb2); have HRD1 := Lib.hid (HRD1.out.below hb2); refine hK.out _ _ (below_after hb2 hHeld) (fun hHeld2 => ?_); clear hb2; (clear hHeld; rename _ => hHeld; clear hK K; have hHeld : Below w0.heap.size w0 _ := hHeld); (try simp only [Act.put, List.getElem_toArray, List.getElem_cons_succ, List.getElem_cons_zero, List.setIfInBounds_toArray, List.set_cons_zero, List.set_cons_succ])
      (refine wpAnyH_take (i := 5) (v := ?_) rfl (by kernel_rfl) (by kernel_rfl) (by kernel_rfl) (fun _ _ _ h => h) (Or.inl ⟨rfl, ?_⟩) (by assumption) ?_; rotate_left; focus (intro W hSw; (try dsimp only at hSw); have hxx := HXX.out _ hSw; have hxQ := hxx; obtain ⟨⟨iQ0, iQ1, iQ2⟩, _, _⟩ := hxQ; go_simp; try (with_reducible rfl))); (try simp only [Act.put, List.getElem_toArray, List.getElem_cons_succ, List.getElem_cons_zero, List.setIfInBounds_toArray, List.set_cons_zero, List.set_cons_succ])
      (refine wpAnyH_take (i := 6) (v := ?_) rfl (by kernel_rfl) (by kernel_rfl) (by kernel_rfl) (fun _ _ _ h => h) (Or.inl ⟨rfl, ?_⟩) (by assumption) ?_; rotate_left; focus (intro W hSw; (try dsimp only at hSw); have hxx := HXX.out _ hSw; have hxQ := hxx; obtain ⟨⟨iQ0, iQ1, iQ2⟩, _, _⟩ := hxQ; go_simp; try (with_reducible rfl))); (try simp only [Act.put, List.getElem_toArray, List.getElem_cons_succ, List.getElem_cons_zero, List.setIfInBounds_toArray, List.set_cons_zero, List.set_cons_succ])
      (refine wpAnyH_take (i := 7) (v := ?_) rfl (by kernel_rfl) (by kernel_rfl) (by kernel_rfl) (fun _ _ _ h => h) (Or.inl ⟨rfl, ?_⟩) (by assumption) ?_; rotate_left; focus (intro W hSw; (try dsimp only at hSw); have hxx := HXX.out _ hSw; have hxQ := hxx; obtain ⟨⟨iQ0, iQ1, iQ2⟩, _, _⟩ := hxQ; go_simp; try (with_reducible rfl))); (try simp only [Act.put, List.getElem_toArray, List.getElem_cons_succ, List.getElem_cons_zero, List.setIfInBounds_toArray, List.set_cons_zero, List.set_cons_succ])
      refine wpAnyH_ready (rs := [9]) (by kernel_rfl) (by simp) ?_; refine AllReadyH.cons rfl (fun K hK => ?_) AllReadyH.nil
      obtain ⟨⟨a0, a1, a2⟩, ⟨f0, f1, f2⟩, az⟩ := HM.out; go_simp; clear a0 f0 a1 f1 a2 f2 az
      have HQ := Lib.hid (((HQ.out.far ⟨GM, 0, none⟩ (.int .i64 X) (by show GQ ≠ GM; exact ne_Q_M)).far ⟨GM, 1, none⟩ (.int .i64 Y) (by show GQ ≠ GM; exact ne_Q_M)).far ⟨GM, 2, none⟩ (.int .i64 Z) (by show GQ ≠ GM; exact ne_Q_M))
      have HM := Lib.hid (((HM.out.set0 X).set1 Y).set2 Z)
      refine hK.out _ _ (Below.setCell (Below.setCell (Below.setCell hHeld (p := ⟨GM, 0, none⟩) le_M _) (p := ⟨GM, 1, none⟩) le_M _) (p := ⟨GM, 2, none⟩) le_M _) (fun hHeld2 => ?_); (clear hHeld; rename _ => hHeld; clear hK K; have hHeld : Below w0.heap.size w0 _ := hHeld); (try simp only [Act.put, List.getElem_toArray, List.getElem_cons_succ, List.getElem_cons_zero, List.setIfInBounds_toArray, List.set_cons_zero, List.set_cons_succ])
      obtain ⟨ywr20x4, hwx⟩ : ∃ wx, ((ywr20x3.setCell ⟨GM, 0, none⟩ (.int .i64 X)).setCell ⟨GM, 1, none⟩ (.int .i64 Y)).setCell ⟨GM, 2, none⟩ (.int .i64 Z) = wx := ⟨_, rfl⟩; rw [hwx] at HQ HM hHeld ⊢; clear hwx
      (refine wpAnyH_take (i := 10) (v := ?_) rfl (by kernel_rfl) (by kernel_rfl) (by kernel_rfl) (fun _ _ _ h => h) (Or.inl ⟨rfl, ?_⟩) (by assumption) ?_; rotate_left; focus (intro W hSw; (try dsimp only at hSw); have hxx := HXX.out _ hSw; have hxQ := hxx; obtain ⟨⟨iQ0, iQ1, iQ2⟩, _, _⟩ := hxQ; go_simp; try (with_reducible rfl))); (try simp only [Act.put, List.getElem_toArray, List.getElem_cons_succ, List.getElem_cons_zero, List.setIfInBounds_toArray, List.set_cons_zero, List.set_cons_succ])
      refine wpAnyH_done (by kernel_rfl) ?_ _
      have le_M : w.heap.size ≤ GM := Nat.le_trans HB.out.size le_M
      have HB := Lib.hid (HB.out.trans (hHeld.mono HB.out.size))
      clear hHeld HXX
      obtain ⟨⟨qQ0, qQ1, qQ2⟩, ⟨fQ0, fQ1, fQ2⟩, zQ⟩ := HQ.out
      obtain ⟨⟨qM0, qM1, qM2⟩, ⟨fM0, fM1, fM2⟩, zM⟩ := HM.out
      go_wp2_with fail
      go_at_call 6
      refine (HTO.out _ HB.out).mono ?_
      rintro e w71 ⟨V2, vs2, rfl, hO2, hb⟩
      clear qQ0 fQ0 qQ1 fQ1 qQ2 fQ2 zQ qM0 fM0 qM1 fM1 qM2 fM2 zM
      have HQ := Lib.hid (HQ.out.below hb)
      have HM := Lib.hid (HM.out.below hb)
      have HB := Lib.hid (below_after hb HB.out)
      clear hb
      obtain ⟨a2, c2, hV2, hrd2⟩ := hO2.rd
      subst hV2
      have HO2 := Lib.hid hO2
      have HRD2 := Lib.hid hrd2
      clear hO2 hrd2
      obtain ⟨⟨qQ0, qQ1, qQ2⟩, ⟨fQ0, fQ1, fQ2⟩, zQ⟩ := HQ.out
      obtain ⟨⟨qM0, qM1, qM2⟩, ⟨fM0, fM1, fM2⟩, zM⟩ := HM.out
      go_wp2_with fail
      go_at_call 7
      refine (toTriple_any _ _ _ _).mono ?_
      rintro e w72 ⟨rfl, hb⟩
      clear qQ0 fQ0 qQ1 fQ1 qQ2 fQ2 zQ qM0 fM0 qM1 fM1 qM2 fM2 zM
      have HQ := Lib.hid (HQ.out.below hb)
      have HM := Lib.hid (HM.out.below hb)
      have HO2 := Lib.hid (HO2.out.below hb)
      have HRD2 := Lib.hid (HRD2.out.below hb)
      have HB := Lib.hid (below_after hb HB.out)
      clear hb
      obtain ⟨⟨qQ0, qQ1, qQ2⟩, ⟨fQ0, fQ1, fQ2⟩, zQ⟩ := HQ.out
      obtain ⟨⟨qM0, qM1, qM2⟩, ⟨fM0, fM1, fM2⟩, zM⟩ := HM.out
      go_wp2_with fail
      go_at_call 8
      refine (HIM.out _ a2 c2 vs2 HRD2.out).mono ?_
      rintro e w73 ⟨rfl, hb⟩
      clear qQ0 fQ0 qQ1 fQ1 qQ2 fQ2 zQ qM0 fM0 qM1 fM1 qM2 fM2 zM
      have HQ := Lib.hid (HQ.out.below hb)
      have HM := Lib.hid (HM.out.below hb)
      have HO2 := Lib.hid (HO2.out.below hb)
      have HRD2 := Lib.hid (HRD2.out.below hb)
      have HB := Lib.hid (below_after hb HB.out)
      clear hb
      clear HRD2
      obtain ⟨⟨qQ0, qQ1, qQ2⟩, ⟨fQ0, fQ1, fQ2⟩, zQ⟩ := HQ.out
      obtain ⟨⟨qM0, qM1, qM2⟩, ⟨fM0, fM1, fM2⟩, zM⟩ := HM.out
      go_upto_region 8 with fail
      obtain ⟨GP, hGP⟩ : ∃ g, w73.heap.size = g := ⟨_, rfl⟩
      obtain ⟨w74, hw74⟩ : ∃ wx, wx = w73.alloc (.cells #[.int .i64 X, .int .i64 Y, .int .i64 Z] 25) := ⟨_, rfl⟩
      rw [← hw74, hGP]
      have HP : Hid (Bk3 w74 GP X Y Z) := by rw [hw74, ← hGP]; exact bk3_new w73 X Y Z _
      have le_P : w.heap.size ≤ GP := by rw [← hGP]; exact HB.out.size
      have ne_P_Q : GP ≠ GQ := by have := HQ.out.2.2; omega
      have ne_Q_P : GQ ≠ GP := Ne.symm ne_P_Q
      have ne_P_M : GP ≠ GM := by have := HM.out.2.2; omega
      have ne_M_P : GM ≠ GP := Ne.symm ne_P_M
      clear qQ0 fQ0 qQ1 fQ1 qQ2 fQ2 zQ qM0 fM0 qM1 fM1 qM2 fM2 zM
      have HQ := Lib.hid (HQ.out.below ((Below.refl _ _).alloc (Nat.le_refl _) (.cells #[.int .i64 X, .int .i64 Y, .int .i64 Z] 25)))
      have HM := Lib.hid (HM.out.below ((Below.refl _ _).alloc (Nat.le_refl _) (.cells #[.int .i64 X, .int .i64 Y, .int .i64 Z] 25)))
      have HO2 := Lib.hid (HO2.out.below ((Below.refl _ _).alloc (Nat.le_refl _) (.cells #[.int .i64 X, .int .i64 Y, .int .i64 Z] 25)))
      have HB := Lib.hid (Below.alloc HB.out HB.out.size (.cells #[.int .i64 X, .int .i64 Y, .int .i64 Z] 25))
      rw [← hw74] at HQ HM HO2 HB
      clear hw74 hGP
      obtain ⟨⟨qQ0, qQ1, qQ2⟩, ⟨fQ0, fQ1, fQ2⟩, zQ⟩ := HQ.out
      obtain ⟨⟨qM0, qM1, qM2⟩, ⟨fM0, fM1, fM2⟩, zM⟩ := HM.out
      obtain ⟨⟨qP0, qP1, qP2⟩, ⟨fP0, fP1, fP2⟩, zP⟩ := HP.out
      go_wp2_with fail
      go_at_call 9
      refine (eqTriple_same _ _ _ _).mono ?_
      rintro e w75 ⟨rfl, hb⟩
      clear qQ0 fQ0 qQ1 fQ1 qQ2 fQ2 zQ qM0 fM0 qM1 fM1 qM2 fM2 zM qP0 fP0 qP1 fP1 qP2 fP2 zP
      have HQ := Lib.hid (HQ.out.below hb)
      have HM := Lib.hid (HM.out.below hb)
      have HP := Lib.hid (HP.out.below hb)
      have HO2 := Lib.hid (HO2.out.below hb)
      have HB := Lib.hid (below_after hb HB.out)
      clear hb
      obtain ⟨⟨qQ0, qQ1, qQ2⟩, ⟨fQ0, fQ1, fQ2⟩, zQ⟩ := HQ.out
      obtain ⟨⟨qM0, qM1, qM2⟩, ⟨fM0, fM1, fM2⟩, zM⟩ := HM.out
      obtain ⟨⟨qP0, qP1, qP2⟩, ⟨fP0, fP1, fP2⟩, zP⟩ := HP.out
      go_wp2_with fail
      go_at_call 6
      refine (HTO.out _ HB.out).mono ?_
      rintro e w76 ⟨V3, vs3, rfl, hO3, hb⟩
      clear qQ0 fQ0 qQ1 fQ1 qQ2 fQ2 zQ qM0 fM0 qM1 fM1 qM2 fM2 zM qP0 fP0 qP1 fP1 qP2 fP2 zP
      have HQ := Lib.hid (HQ.out.below hb)
      have HM := Lib.hid (HM.out.below hb)
      have HP := Lib.hid (HP.out.below hb)
      have HO2 := Lib.hid (HO2.out.below hb)
      have HB := Lib.hid (below_after hb HB.out)
      clear hb
      have HO3 := Lib.hid hO3
      clear hO3
      obtain ⟨⟨qQ0, qQ1, qQ2⟩, ⟨fQ0, fQ1, fQ2⟩, zQ⟩ := HQ.out
      obtain ⟨⟨qM0, qM1, qM2⟩, ⟨fM0, fM1, fM2⟩, zM⟩ := HM.out
      obtain ⟨⟨qP0, qP1, qP2⟩, ⟨fP0, fP1, fP2⟩, zP⟩ := HP.out
      go_wp2_with fail
      go_at_call 10
      refine (eqInt64SS_same _ _ _ _ _ _ (valSS rs) _ HO2.out HO3.out HX.out HXX.out).mono ?_
      rintro e w77 ⟨rfl, hb⟩
      clear qQ0 fQ0 qQ1 fQ1 qQ2 fQ2 zQ qM0 fM0 qM1 fM1 qM2 fM2 zM qP0 fP0 qP1 fP1 qP2 fP2 zP
      have HQ := Lib.hid (HQ.out.below hb)
      have HM := Lib.hid (HM.out.below hb)
      have HP := Lib.hid (HP.out.below hb)
      have HO2 := Lib.hid (HO2.out.below hb)
      have HO3 := Lib.hid (HO3.out.below hb)
      have HB := Lib.hid (below_after hb HB.out)
      clear hb
      obtain ⟨⟨qQ0, qQ1, qQ2⟩, ⟨fQ0, fQ1, fQ2⟩, zQ⟩ := HQ.out
      obtain ⟨⟨qM0, qM1, qM2⟩, ⟨fM0, fM1, fM2⟩, zM⟩ := HM.out
      obtain ⟨⟨qP0, qP1, qP2⟩, ⟨fP0, fP1, fP2⟩, zP⟩ := HP.out
      go_wp2_with fail
      go_ret
      have hb := HB.out
      exact ⟨rfl, by (repeat' (first | (with_reducible exact Below.refl _ _) | (with_reducible refine Below.alloc ?_ ?_ _) | (with_reducible refine Below.setCell ?_ ?_ _) | (with_reducible refine Below.drew ?_) | (with_reducible refine below_drewN ?_ _) | (with_reducible assumption) | (with_reducible refine below_after (by with_reducible assumption) ?_) | go_size))⟩
  · skip
    go_simp; obtain ⟨GM, hGM⟩ : ∃ G, wD20.heap.size = G := ⟨_, rfl⟩; have le_M : w0.heap.size ≤ GM := by rw [← hGM]; exact Below.size hHeld
    have ne_M_Q : GM ≠ GQ := by have := HQ.out.2.2; omega
    have ne_Q_M : GQ ≠ GM := Ne.symm ne_M_Q
    have HQ := Lib.hid (HQ.out.below ((Below.refl _ _).alloc (Nat.le_refl _) (.cells #[.int .i64 0, .int .i64 0, .int .i64 0] 25))); skip
    have HM : Hid (Bk3 (wD20.alloc (.cells #[.int .i64 0, .int .i64 0, .int .i64 0] 25)) GM 0 0 0) := by rw [← hGM]; exact bk3_new wD20 0 0 0 _
    refine hK.out _ _ (Below.alloc hHeld (Below.size hHeld) _) (fun hHeld2 => ?_); (clear hHeld; rename _ => hHeld; clear hK K; have hHeld : Below w0.heap.size w0 _ := hHeld); (try simp only [Act.put, List.getElem_toArray, List.getElem_cons_succ, List.getElem_cons_zero, List.setIfInBounds_toArray, List.set_cons_zero, List.set_cons_succ])
    rw [hGM]; clear hGM; obtain ⟨ywr20x0, hwx⟩ : ∃ wx, wD20.alloc (.cells #[.int .i64 0, .int .i64 0, .int .i64 0] 25) = wx := ⟨_, rfl⟩; rw [hwx] at HQ HM hHeld ⊢; clear hwx
    refine wpAnyH_ready (rs := [1]) (by kernel_rfl) (by simp) ?_; refine AllReadyH.cons rfl (fun K hK => ?_) AllReadyH.nil
    go_simp; (go_at_call 6; refine (HTO.out _ (HB.out.trans (hHeld.mono HB.out.size))).mono ?_; rintro en ywr20x1 ⟨V1, vs1, rfl, hO1, hb2⟩); obtain ⟨a1, c1, hV1, hrd1⟩ := hO1.rd; subst hV1; have HRD1 := Lib.hid hrd1; clear hO1 hrd1; have HQ := Lib.hid (HQ.out.below hb2); have HM := Lib.hid (HM.out.below hb2); refine hK.out _ _ (below_after hb2 hHeld) (fun hHeld2 => ?_); clear hb2; (clear hHeld; rename _ => hHeld; clear hK K; have hHeld : Below w0.heap.size w0 _ := hHeld); (try simp only [Act.put, List.getElem_toArray, List.getElem_cons_succ, List.getElem_cons_zero, List.setIfInBounds_toArray, List.set_cons_zero, List.set_cons_succ])
    refine wpAnyH_ready (rs := [3]) (by kernel_rfl) (by simp) ?_; refine AllReadyH.cons rfl (fun K hK => ?_) AllReadyH.nil
    go_simp; (go_at_call 7; refine (toTriple_any _ _ _ _).mono ?_; rintro en ywr20x2 ⟨rfl, hb2⟩); have HQ := Lib.hid (HQ.out.below hb2); have HM := Lib.hid (HM.out.below hb2); have HRD1 := Lib.hid (HRD1.out.below hb2); refine hK.out _ _ (below_after hb2 hHeld) (fun hHeld2 => ?_); clear hb2; (clear hHeld; rename _ => hHeld; clear hK K; have hHeld : Below w0.heap.size w0 _ := hHeld); (try simp only [Act.put, List.getElem_toArray, List.getElem_cons_succ, List.getElem_cons_zero, List.setIfInBounds_toArray, List.set_cons_zero, List.set_cons_succ])
    refine wpAnyH_ready (rs := [4]) (by kernel_rfl) (by simp) ?_; refine AllReadyH.cons rfl (fun K hK => ?_) AllReadyH.nil
    go_simp; (go_at_call 5; refine (HSP.out _ a1 c1 vs1 HRD1.out).mono ?_; rintro en ywr20x3 ⟨rfl, hb2⟩); have HQ := Lib.hid (HQ.out.below hb2); have HM := Lib.hid (HM.out.below hb2); have HRD1 := Lib.hid (HRD1.out.below hb2); refine hK.out _ _ (below_after hb2 hHeld) (fun hHeld2 => ?_); clear hb2; (clear hHeld; rename _ => hHeld; clear hK K; have hHeld : Below w0.heap.size w0 _ := hHeld); (try simp only [Act.put, List.getElem_toArray, List.getElem_cons_succ, List.getElem_cons_zero, List.setIfInBounds_toArray, List.set_cons_zero, List.set_cons_succ])
    (refine wpAnyH_take (i := 5) (v := ?_) rfl (by kernel_rfl) (by kernel_rfl) (by kernel_rfl) (fun _ _ _ h => h) (Or.inl ⟨rfl, ?_⟩) (by assumption) ?_; rotate_left; focus (intro W hSw; (try dsimp only at hSw); have hxx := HXX.out _ hSw; have hxQ := hxx; obtain ⟨⟨iQ0, iQ1, iQ2⟩, _, _⟩ := hxQ; go_simp; try (with_reducible rfl))); (try simp only [Act.put, List.getElem_toArray, List.getElem_cons_succ, List.getElem_cons_zero, List.setIfInBounds_toArray, List.set_cons_zero, List.set_cons_succ])
    (refine wpAnyH_take (i := 6) (v := ?_) rfl (by kernel_rfl) (by kernel_rfl) (by kernel_rfl) (fun _ _ _ h => h) (Or.inl ⟨rfl, ?_⟩) (by assumption) ?_; rotate_left; focus (intro W hSw; (try dsimp only at hSw); have hxx := HXX.out _ hSw; have hxQ := hxx; obtain ⟨⟨iQ0, iQ1, iQ2⟩, _, _⟩ := hxQ; go_simp; try (with_reducible rfl))); (try simp only [Act.put, List.getElem_toArray, List.getElem_cons_succ, List.getElem_cons_zero, List.setIfInBounds_toArray, List.set_cons_zero, List.set_cons_succ])
    (refine wpAnyH_take (i := 7) (v := ?_) rfl (by kernel_rfl) (by kernel_rfl) (by kernel_rfl) (fun _ _ _ h => h) (Or.inl ⟨rfl, ?_⟩) (by assumption) ?_; rotate_left; focus (intro W hSw; (try dsimp only at hSw); have hxx := HXX.out _ hSw; have hxQ := hxx; obtain ⟨⟨iQ0, iQ1, iQ2⟩, _, _⟩ := hxQ; go_simp; try (with_reducible rfl))); (try simp only [Act.put, List.getElem_toArray, List.getElem_cons_succ, List.getElem_cons_zero, List.setIfInBounds_toArray, List.set_cons_zero, List.set_cons_succ])
    refine wpAnyH_ready (rs := [9]) (by kernel_rfl) (by simp) ?_; refine AllReadyH.cons rfl (fun K hK => ?_) AllReadyH.nil
    obtain ⟨⟨a0, a1, a2⟩, ⟨f0, f1, f2⟩, az⟩ := HM.out; go_simp; clear a0 f0 a1 f1 a2 f2 az
    have HQ := Lib.hid (((HQ.out.far ⟨GM, 0, none⟩ (.int .i64 X) (by show GQ ≠ GM; exact ne_Q_M)).far ⟨GM, 1, none⟩ (.int .i64 Y) (by show GQ ≠ GM; exact ne_Q_M)).far ⟨GM, 2, none⟩ (.int .i64 Z) (by show GQ ≠ GM; exact ne_Q_M))
    have HM := Lib.hid (((HM.out.set0 X).set1 Y).set2 Z)
    refine hK.out _ _ (Below.setCell (Below.setCell (Below.setCell hHeld (p := ⟨GM, 0, none⟩) le_M _) (p := ⟨GM, 1, none⟩) le_M _) (p := ⟨GM, 2, none⟩) le_M _) (fun hHeld2 => ?_); (clear hHeld; rename _ => hHeld; clear hK K; have hHeld : Below w0.heap.size w0 _ := hHeld); (try simp only [Act.put, List.getElem_toArray, List.getElem_cons_succ, List.getElem_cons_zero, List.setIfInBounds_toArray, List.set_cons_zero, List.set_cons_succ])
    obtain ⟨ywr20x4, hwx⟩ : ∃ wx, ((ywr20x3.setCell ⟨GM, 0, none⟩ (.int .i64 X)).setCell ⟨GM, 1, none⟩ (.int .i64 Y)).setCell ⟨GM, 2, none⟩ (.int .i64 Z) = wx := ⟨_, rfl⟩; rw [hwx] at HQ HM hHeld ⊢; clear hwx
    (refine wpAnyH_take (i := 10) (v := ?_) rfl (by kernel_rfl) (by kernel_rfl) (by kernel_rfl) (fun _ _ _ h => h) (Or.inl ⟨rfl, ?_⟩) (by assumption) ?_; rotate_left; focus (intro W hSw; (try dsimp only at hSw); have hxx := HXX.out _ hSw; have hxQ := hxx; obtain ⟨⟨iQ0, iQ1, iQ2⟩, _, _⟩ := hxQ; go_simp; try (with_reducible rfl))); (try simp only [Act.put, List.getElem_toArray, List.getElem_cons_succ, List.getElem_cons_zero, List.setIfInBounds_toArray, List.set_cons_zero, List.set_cons_succ])
    refine wpAnyH_done (by kernel_rfl) ?_ _
    have le_M : w.heap.size ≤ GM := Nat.le_trans HB.out.size le_M
    have HB := Lib.hid (HB.out.trans (hHeld.mono HB.out.size))
    clear hHeld HXX
    obtain ⟨⟨qQ0, qQ1, qQ2⟩, ⟨fQ0, fQ1, fQ2⟩, zQ⟩ := HQ.out
    obtain ⟨⟨qM0, qM1, qM2⟩, ⟨fM0, fM1, fM2⟩, zM⟩ := HM.out
    go_wp2_with fail
    go_at_call 6
    refine (HTO.out _ HB.out).mono ?_
    rintro e w71 ⟨V2, vs2, rfl, hO2, hb⟩
    clear qQ0 fQ0 qQ1 fQ1 qQ2 fQ2 zQ qM0 fM0 qM1 fM1 qM2 fM2 zM
    have HQ := Lib.hid (HQ.out.below hb)
    have HM := Lib.hid (HM.out.below hb)
    have HB := Lib.hid (below_after hb HB.out)
    clear hb
    obtain ⟨a2, c2, hV2, hrd2⟩ := hO2.rd
    subst hV2
    have HO2 := Lib.hid hO2
    have HRD2 := Lib.hid hrd2
    clear hO2 hrd2
    obtain ⟨⟨qQ0, qQ1, qQ2⟩, ⟨fQ0, fQ1, fQ2⟩, zQ⟩ := HQ.out
    obtain ⟨⟨qM0, qM1, qM2⟩, ⟨fM0, fM1, fM2⟩, zM⟩ := HM.out
    go_wp2_with fail
    go_at_call 7
    refine (toTriple_any _ _ _ _).mono ?_
    rintro e w72 ⟨rfl, hb⟩
    clear qQ0 fQ0 qQ1 fQ1 qQ2 fQ2 zQ qM0 fM0 qM1 fM1 qM2 fM2 zM
    have HQ := Lib.hid (HQ.out.below hb)
    have HM := Lib.hid (HM.out.below hb)
    have HO2 := Lib.hid (HO2.out.below hb)
    have HRD2 := Lib.hid (HRD2.out.below hb)
    have HB := Lib.hid (below_after hb HB.out)
    clear hb
    obtain ⟨⟨qQ0, qQ1, qQ2⟩, ⟨fQ0, fQ1, fQ2⟩, zQ⟩ := HQ.out
    obtain ⟨⟨qM0, qM1, qM2⟩, ⟨fM0, fM1, fM2⟩, zM⟩ := HM.out
    go_wp2_with fail
    go_at_call 8
    refine (HIM.out _ a2 c2 vs2 HRD2.out).mono ?_
    rintro e w73 ⟨rfl, hb⟩
    clear qQ0 fQ0 qQ1 fQ1 qQ2 fQ2 zQ qM0 fM0 qM1 fM1 qM2 fM2 zM
    have HQ := Lib.hid (HQ.out.below hb)
    have HM := Lib.hid (HM.out.below hb)
    have HO2 := Lib.hid (HO2.out.below hb)
    have HRD2 := Lib.hid (HRD2.out.below hb)
    have HB := Lib.hid (below_after hb HB.out)
    clear hb
    clear HRD2
    obtain ⟨⟨qQ0, qQ1, qQ2⟩, ⟨fQ0, fQ1, fQ2⟩, zQ⟩ := HQ.out
    obtain ⟨⟨qM0, qM1, qM2⟩, ⟨fM0, fM1, fM2⟩, zM⟩ := HM.out
    go_upto_region 8 with fail
    obtain ⟨GP, hGP⟩ : ∃ g, w73.heap.size = g := ⟨_, rfl⟩
    obtain ⟨w74, hw74⟩ : ∃ wx, wx = w73.alloc (.cells #[.int .i64 X, .int .i64 Y, .int .i64 Z] 25) := ⟨_, rfl⟩
    rw [← hw74, hGP]
    have HP : Hid (Bk3 w74 GP X Y Z) := by rw [hw74, ← hGP]; exact bk3_new w73 X Y Z _
    have le_P : w.heap.size ≤ GP := by rw [← hGP]; exact HB.out.size
    have ne_P_Q : GP ≠ GQ := by have := HQ.out.2.2; omega
    have ne_Q_P : GQ ≠ GP := Ne.symm ne_P_Q
    have ne_P_M : GP ≠ GM := by have := HM.out.2.2; omega
    have ne_M_P : GM ≠ GP := Ne.symm ne_P_M
    clear qQ0 fQ0 qQ1 fQ1 qQ2 fQ2 zQ qM0 fM0 qM1 fM1 qM2 fM2 zM
    have HQ := Lib.hid (HQ.out.below ((Below.refl _ _).alloc (Nat.le_refl _) (.cells #[.int .i64 X, .int .i64 Y, .int .i64 Z] 25)))
    have HM := Lib.hid (HM.out.below ((Below.refl _ _).alloc (Nat.le_refl _) (.cells #[.int .i64 X, .int .i64 Y, .int .i64 Z] 25)))
    have HO2 := Lib.hid (HO2.out.below ((Below.refl _ _).alloc (Nat.le_refl _) (.cells #[.int .i64 X, .int .i64 Y, .int .i64 Z] 25)))
    have HB := Lib.hid (Below.alloc HB.out HB.out.size (.cells #[.int .i64 X, .int .i64 Y, .int .i64 Z] 25))
    rw [← hw74] at HQ HM HO2 HB
    clear hw74 hGP
    obtain ⟨⟨qQ0, qQ1, qQ2⟩, ⟨fQ0, fQ1, fQ2⟩, zQ⟩ := HQ.out
    obtain ⟨⟨qM0, qM1, qM2⟩, ⟨fM0, fM1, fM2⟩, zM⟩ := HM.out
    obtain ⟨⟨qP0, qP1, qP2⟩, ⟨fP0, fP1, fP2⟩, zP⟩ := HP.out
    go_wp2_with fail
    go_at_call 9
    refine (eqTriple_same _ _ _ _).mono ?_
    rintro e w75 ⟨rfl, hb⟩
    clear qQ0 fQ0 qQ1 fQ1 qQ2 fQ2 zQ qM0 fM0 qM1 fM1 qM2 fM2 zM qP0 fP0 qP1 fP1 qP2 fP2 zP
    have HQ := Lib.hid (HQ.out.below hb)
    have HM := Lib.hid (HM.out.below hb)
    have HP := Lib.hid (HP.out.below hb)
    have HO2 := Lib.hid (HO2.out.below hb)
    have HB := Lib.hid (below_after hb HB.out)
    clear hb
    obtain ⟨⟨qQ0, qQ1, qQ2⟩, ⟨fQ0, fQ1, fQ2⟩, zQ⟩ := HQ.out
    obtain ⟨⟨qM0, qM1, qM2⟩, ⟨fM0, fM1, fM2⟩, zM⟩ := HM.out
    obtain ⟨⟨qP0, qP1, qP2⟩, ⟨fP0, fP1, fP2⟩, zP⟩ := HP.out
    go_wp2_with fail
    go_at_call 6
    refine (HTO.out _ HB.out).mono ?_
    rintro e w76 ⟨V3, vs3, rfl, hO3, hb⟩
    clear qQ0 fQ0 qQ1 fQ1 qQ2 fQ2 zQ qM0 fM0 qM1 fM1 qM2 fM2 zM qP0 fP0 qP1 fP1 qP2 fP2 zP
    have HQ := Lib.hid (HQ.out.below hb)
    have HM := Lib.hid (HM.out.below hb)
    have HP := Lib.hid (HP.out.below hb)
    have HO2 := Lib.hid (HO2.out.below hb)
    have HB := Lib.hid (below_after hb HB.out)
    clear hb
    have HO3 := Lib.hid hO3
    clear hO3
    obtain ⟨⟨qQ0, qQ1, qQ2⟩, ⟨fQ0, fQ1, fQ2⟩, zQ⟩ := HQ.out
    obtain ⟨⟨qM0, qM1, qM2⟩, ⟨fM0, fM1, fM2⟩, zM⟩ := HM.out
    obtain ⟨⟨qP0, qP1, qP2⟩, ⟨fP0, fP1, fP2⟩, zP⟩ := HP.out
    go_wp2_with fail
    go_at_call 10
    refine (eqInt64SS_same _ _ _ _ _ _ (valSS rs) _ HO2.out HO3.out HX.out HXX.out).mono ?_
    rintro e w77 ⟨rfl, hb⟩
    clear qQ0 fQ0 qQ1 fQ1 qQ2 fQ2 zQ qM0 fM0 qM1 fM1 qM2 fM2 zM qP0 fP0 qP1 fP1 qP2 fP2 zP
    have HQ := Lib.hid (HQ.out.below hb)
    have HM := Lib.hid (HM.out.below hb)
    have HP := Lib.hid (HP.out.below hb)
    have HO2 := Lib.hid (HO2.out.below hb)
    have HO3 := Lib.hid (HO3.out.below hb)
    have HB := Lib.hid (below_after hb HB.out)
    clear hb
    obtain ⟨⟨qQ0, qQ1, qQ2⟩, ⟨fQ0, fQ1, fQ2⟩, zQ⟩ := HQ.out
    obtain ⟨⟨qM0, qM1, qM2⟩, ⟨fM0, fM1, fM2⟩, zM⟩ := HM.out
    obtain ⟨⟨qP0, qP1, qP2⟩, ⟨fP0, fP1, fP2⟩, zP⟩ := HP.out
    go_wp2_with fail
    go_ret
    have hb := HB.out
    exact ⟨rfl, by (repeat' (first | (with_reducible exact Below.refl _ _) | (with_reducible refine Below.alloc ?_ ?_ _) | (with_reducible refine Below.setCell ?_ ?_ _) | (with_reducible refine Below.drew ?_) | (with_reducible refine below_drewN ?_ _) | (with_reducible assumption) | (with_reducible refine below_after (by with_reducible assumption) ?_) | go_size))⟩
end Go.Proofs.Ythckbobbnkhnpaa
