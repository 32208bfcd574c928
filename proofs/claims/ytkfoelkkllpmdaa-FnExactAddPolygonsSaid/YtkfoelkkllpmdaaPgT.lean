/-
  AddPolygons in the program at any lists (own work).
-/
import Derived.Test.YtkfoelkkllpmdaaPoK
namespace Go.Proofs.Ytkfoelkkllpmdaa
open Go.ChangeShapes Go.WideShapes Go.ChangeAt Go.RowKit
set_option linter.unusedVariables false
set_option maxRecDepth 100000
set_option linter.unusedSimpArgs false
set_option maxRecDepth 100000

def adL (A B : List (Int × Int)) : List (Int × Int) := if isP A = true then (if isP B = true then tlL (sums A B) else []) else []
def adC (A B : List (Int × Int)) : Int := if isP A = true then (if isP B = true then tlC (sums A B) else 1) else 1
theorem ad_no1 {A B : List (Int × Int)} (h : isP A = false) : adL A B = [] ∧ adC A B = 1 := by unfold adL adC; rw [h]; exact ⟨rfl, rfl⟩
theorem ad_no2 {A B : List (Int × Int)} (h : isP A = true) (k : isP B = false) : adL A B = [] ∧ adC A B = 1 := by unfold adL adC; rw [h, k]; exact ⟨rfl, rfl⟩
theorem ad_yes {A B : List (Int × Int)} (h : isP A = true) (k : isP B = true) : adL A B = tlL (sums A B) ∧ adC A B = tlC (sums A B) := by unfold adL adC; rw [h, k]; exact ⟨rfl, rfl⟩
def sumK (A B : List (Int × Int)) (i k : Nat) : List (Int × Int) := sums (A.take i) B ++ (B.take k).map (adv (A.getD i (0, 0)))
theorem sumK_succ {A B : List (Int × Int)} {i k : Nat} (hk : k < B.length) : flat (sumK A B i (k + 1)) = flat (sumK A B i k) ++ [(adv (A.getD i (0, 0)) (B.getD k (0, 0))).1, (adv (A.getD i (0, 0)) (B.getD k (0, 0))).2] := by
  unfold sumK
  rw [List.take_succ_eq_append_getElem hk, List.map_append, ← List.append_assoc, flat_append]
  simp [flat, List.getD, hk]
theorem sumK_zero (A B : List (Int × Int)) (i : Nat) : sumK A B i 0 = sums (A.take i) B := by simp [sumK]
theorem sumK_end {A B : List (Int × Int)} {i : Nat} (hi : i < A.length) : sumK A B i B.length = sums (A.take (i + 1)) B := by
  unfold sumK
  rw [List.take_length, List.take_succ_eq_append_getElem hi]
  unfold sums
  rw [List.flatMap_append]
  simp [List.getD, hi]
/-- A list of points that grows by one that has just been laid; what else is kept is told. -/
theorem wpList_app_F2 (B : Nat) {W : World} {ops : Array Oper} {rest : List Oper} {o : Oper} {a : Act} {Q : Exit → Act → World → Prop} (hgd : o.guard = none) (s x : Operand)
    (ho : o.op = .call { callee := .builtin .append, args := #[s, x], argTypes := #[25, 25] })
    {v : Value} {n g c : Nat} {xs : List Int} {a0 a1 : Int} (hown : OwnF B W v n xs) (c0 : W.cell? ⟨g, 0, none⟩ = some (.int .i64 a0)) (c1 : W.cell? ⟨g, 1, none⟩ = some (.int .i64 a1)) (hb : B ≤ W.heap.size) (hs : a.eval s = v) (hx : a.eval x = .slice (some ⟨g, 0, none⟩) 1 c) (hlen : n + 1 ≤ 4194304)
    (hK : ∀ v' w', OwnF B w' v' (n + 1) (xs ++ [a0, a1]) → W.grownBy w' v.ownBlock → (v'.ownBlock = v.ownBlock ∨ v'.ownBlock = some W.heap.size) → wpList Try.prog ops Q rest (a.put o.dst v') w') : wpList Try.prog ops Q (o :: rest) a W :=
  wpList_plain hgd fun _ hK' => wp_append_atF B s x ho hown c0 c1 hb hs hx hlen fun v' w' h1 h2 h3 => hK' _ _ (hK v' w' h1 h2 h3)
theorem Bk2.grows {w w' : World} {g : Nat} {r : Option Nat} {a b : Int} (h : Bk2 w g a b) (hg : w.grownBy w' r) (hne : r ≠ some g) : Bk2 w' g a b := h.same (hg.block g h.2.2 (fun e => hne e.symm))
set_option maxHeartbeats 8000000 in
theorem impl_Add_yes (a b : Option Addr) (na ca nb cb : Nat) (A B : List (Int × Int)) (w : World) (hA : isP A = true) (hB : isP B = true) (vA : LV w a na A) (vB : LV w b nb B) :
    Calls Try.prog 46 #[.slice a na ca, .slice b nb cb] w (RetPC w (adL A B) (adC A B)) := by
  have HPA : Hid (∀ w1, Below w.heap.size w w1 → Calls Try.prog 20 #[.slice a na ca] w1 fun e w' => e = .returned (.bool true) ∧ Below w1.heap.size w1 w') := fun w1 hb => by
    have := impl_IsPolygon_any a na ca A w1 (vA.below hb)
    rwa [hA] at this
  have HPB : Hid (∀ w1, Below w.heap.size w w1 → Calls Try.prog 20 #[.slice b nb cb] w1 fun e w' => e = .returned (.bool true) ∧ Below w1.heap.size w1 w') := fun w1 hb => by
    have := impl_IsPolygon_any b nb cb B w1 (vB.below hb)
    rwa [hB] at this
  rw [(ad_yes hA hB).1, (ad_yes hA hB).2]
  have h3 := sums_three hA hB
  obtain ⟨ga, rfl, hna, na3, na12, hga, hca, hia⟩ := vA.poly hA
  obtain ⟨gb, rfl, hnb, nb3, nb12, hgb, hcb, hib⟩ := vB.poly hB
  have HNA := Lib.hid hna
  have HNB := Lib.hid hnb
  have HCA := Lib.hid hca
  have HCB := Lib.hid hcb
  have HIA : Hid (∀ k, isPt (A.getD k (0, 0)) = true) := fun k => by
    by_cases hk : k < A.length
    · have := isS_iff.1 (List.all_eq_true.1 hia _ (getD_in hk))
      unfold Sml at this
      unfold isPt
      rw [Bool.and_eq_true]
      exact ⟨crd_iff.2 ⟨by omega, by omega⟩, crd_iff.2 ⟨by omega, by omega⟩⟩
    · rw [List.getD_eq_getElem?_getD, List.getElem?_eq_none (by omega)]; decide
  have HIB : Hid (∀ k, isPt (B.getD k (0, 0)) = true) := fun k => by
    by_cases hk : k < B.length
    · have := isS_iff.1 (List.all_eq_true.1 hib _ (getD_in hk))
      unfold Sml at this
      unfold isPt
      rw [Bool.and_eq_true]
      exact ⟨crd_iff.2 ⟨by omega, by omega⟩, crd_iff.2 ⟨by omega, by omega⟩⟩
    · rw [List.getD_eq_getElem?_getD, List.getElem?_eq_none (by omega)]; decide
  have HSP := Lib.hid (sums_pt hia hib)
  have HSL : Hid ((sums A B).length = na * nb) := by show _ = _; rw [sums_len, hna, hnb]
  have HLE : Hid (1 ≤ na * nb ∧ na * nb ≤ 144) := ⟨Nat.mul_le_mul (show 1 ≤ na by omega) (show 1 ≤ nb by omega), Nat.mul_le_mul na12 nb12⟩
  have HLI : Hid (∀ i k, i < na → k ≤ nb → i * nb + k ≤ 144) := fun i k hi hk => by
    have : i * nb ≤ 11 * 12 := Nat.mul_le_mul (by omega) nb12
    omega
  have HTK : Hid (A.take na = A) := List.take_of_length_le (by omega)
  have HG := Lib.hid (And.intro hga hgb)
  clear vA vB hA hB hna hnb hca hcb hia hib hga hgb
  go_enter Try.func46, Try.ntmps46
  go_wp2_with (first | (go_at_call 20; have hh := HPB.out _ hb1; refine hh.mono ?_; clear hh; rintro e w2 ⟨rfl, hb2⟩) | (go_at_call 20; refine (HPA.out _ (Below.refl _ _)).mono ?_; rintro e w1 ⟨rfl, hb1⟩))
  have HB2 := Lib.hid (below_after hb2 hb1)
  clear hb1 hb2 HPA HPB
  go_loopw [6, 21] (fun t6 t21 wr => ∃ (i : Nat) (va : Option Addr) (vc : Nat), t6 = .slice va (i * nb) vc ∧ t21 = .int .i64 i ∧ i ≤ na ∧ OwnF w.heap.size wr (.slice va (i * nb) vc) (i * nb) (flat (sums (A.take i) B)) ∧ Below w.heap.size w wr) (fun _ t21 _ => na - (intOf t21).toNat)
  case atStart =>
    refine ⟨0, none, 0, by rw [Nat.zero_mul], by go_num, by omega, ?_, HB2.out⟩
    rw [Nat.zero_mul]
    exact World.ownsRow_nil _ _ _ _
  case round =>
    obtain ⟨i, va, vc, rfl, rfl, hi, hO, hBe⟩ := hrel
    obtain ⟨wo, rfl⟩ : ∃ x, x = wr := ⟨_, rfl⟩
    have HO := Lib.hid hO
    have HBo := Lib.hid hBe
    have hso := hBe.size
    by_cases hlt : i < na
    · have x2 := ptCells_kept HCA.out (hBe.block ga HG.out.1) i (by have := HNA.out; omega)
      rw [Nat.zero_add] at x2
      have HPX := Lib.hid (HIA.out i)
      have HSE := Lib.hid (sumK_end (A := A) (B := B) (i := i) (by have := HNA.out; omega))
      have HSS : Hid (∀ k, k < nb → flat (sumK A B i (k + 1)) = flat (sumK A B i k) ++ [(adv (A.getD i (0, 0)) (B.getD k (0, 0))).1, (adv (A.getD i (0, 0)) (B.getD k (0, 0))).2]) := fun k hk => sumK_succ (by have := HNB.out; omega)
      obtain ⟨X0, X1, hX⟩ : ∃ x y, A.getD i (0, 0) = (x, y) := ⟨_, _, rfl⟩
      rw [hX] at x2 HPX HSS
      dsimp only at x2
      obtain ⟨x0, x1⟩ := x2
      have q1 : (0 : Int) ≤ (i : Int) := by omega
      have q2 : (i : Int) < (na : Int) := by omega
      have qa : IntKind.i64.wrap ((i : Int) + 1) = (i : Int) + 1 := by rw [IntKind.wrap_i64]; omega
      have HNE : Hid (∀ k, (Value.slice va (i * nb) vc).ownBlock = some k → k < wo.heap.size) := fun k hk => (World.ownsRow.lt hO k hk).2
      clear hX hO hBe
      go_wp2_with fail
      obtain ⟨wb, hwb⟩ : ∃ wb, wb = wo.alloc (.cells #[.int .i64 X0, .int .i64 X1] 38) := ⟨_, rfl⟩
      rw [← hwb]
      have HBb : Hid (Below wo.heap.size wo wb) := by
        show Below wo.heap.size wo wb
        rw [hwb]; (repeat' (first | (with_reducible exact Below.refl _ _) | (with_reducible refine Below.alloc ?_ ?_ _) | (with_reducible refine Below.setCell ?_ ?_ _) | (with_reducible refine Below.drew ?_) | (with_reducible refine below_drewN ?_ _) | (with_reducible assumption) | (with_reducible refine below_after (by with_reducible assumption) ?_) | go_size))
      have HXb : Hid (Bk2 wb wo.heap.size X0 X1) := by show Bk2 wb wo.heap.size X0 X1; rw [hwb]; exact bk2_new wo X0 X1 _
      have HOb := Lib.hid (own_below HO.out HBb.out)
      have HWb := Lib.hid (below_after HBb.out HBo.out)
      clear hwb x0 x1
      go_loopw [6, 27] (fun t6 t27 wi => ∃ (k : Nat) (va : Option Addr) (vc : Nat), t6 = .slice va (i * nb + k) vc ∧ t27 = .int .i64 k ∧ k ≤ nb ∧ OwnF w.heap.size wi (.slice va (i * nb + k) vc) (i * nb + k) (flat (sumK A B i k)) ∧ Below w.heap.size w wi ∧ Bk2 wi wo.heap.size X0 X1 ∧ (Value.slice va (i * nb + k) vc).ownBlock ≠ some wo.heap.size) (fun _ t27 _ => nb - (intOf t27).toNat)
      case atStart =>
        refine ⟨0, va, vc, rfl, by go_num, by omega, ?_, HWb.out, HXb.out, fun e => ?_⟩
        · rw [sumK_zero]; exact HOb.out
        · have := HNE.out _ e; omega
      case round =>
        obtain ⟨k, ua, uc, rfl, rfl, hk, hO, hBe, hX, hne⟩ := hrel
        obtain ⟨wi, rfl⟩ : ∃ x, x = wr := ⟨_, rfl⟩
        have HOi := Lib.hid hO
        have HBi := Lib.hid hBe
        have HXi := Lib.hid hX
        have HNi := Lib.hid hne
        have hsi := hBe.size
        by_cases hklt : k < nb
        · have y2 := ptCells_kept HCB.out (hBe.block gb HG.out.2) k (by have := HNB.out; omega)
          rw [Nat.zero_add] at y2
          have HPY := Lib.hid (HIB.out k)
          have HSk := Lib.hid (HSS.out k hklt)
          obtain ⟨Y0, Y1, hY⟩ : ∃ x y, B.getD k (0, 0) = (x, y) := ⟨_, _, rfl⟩
          rw [hY] at y2 HPY HSk
          dsimp only at y2
          obtain ⟨y0, y1⟩ := y2
          have HPL : Hid (∀ w, Calls Try.prog 84 #[.agg #[.int .i64 X0, .int .i64 X1], .agg #[.int .i64 Y0, .int .i64 Y1], .int .i64 1] w fun e w' => e = .returned (.agg #[.int .i64 (X0 + Y0), .int .i64 (X1 + Y1)]) ∧ Below w.heap.size w w') := fun w => by
            have := plusTimes_any X0 X1 Y0 Y1 1 w (isPt_bn1 HPX.out) (isPt_bn2 HPX.out) (isPt_bn1 HPY.out) (isPt_bn2 HPY.out) ⟨by omega, by omega⟩
            rwa [Int.one_mul, Int.one_mul] at this
          have k1 : (0 : Int) ≤ (k : Int) := by omega
          have k2 : (k : Int) < (nb : Int) := by omega
          have ka : IntKind.i64.wrap ((k : Int) + 1) = (k : Int) + 1 := by rw [IntKind.wrap_i64]; omega
          have hle := HLI.out i k hlt (by omega)
          obtain ⟨⟨x0, x1⟩, _, xl⟩ := hX
          have HOl := Lib.hid (World.ownsRow.lt hO)
          clear hY hO hBe hne
          go_wp2_with (first | (go_at_call 84; refine (HPL.out _).mono ?_; rintro e w5 ⟨rfl, hb5⟩; have HB5 : Hid (Below wi.heap.size wi w5) := (by show Below wi.heap.size wi w5; refine below_after hb5 ?_; (repeat' (first | (with_reducible exact Below.refl _ _) | (with_reducible refine Below.alloc ?_ ?_ _) | (with_reducible refine Below.setCell ?_ ?_ _) | (with_reducible refine Below.drew ?_) | (with_reducible refine below_drewN ?_ _) | (with_reducible assumption) | (with_reducible refine below_after (by with_reducible assumption) ?_) | go_size))); clear hb5 x0 x1 y0 y1; have hs5 := HB5.out.size; have HBa := Lib.hid ((below_after HB5.out HBi.out).alloc (by omega) (.cells #[.int .i64 (X0 + Y0), .int .i64 (X1 + Y1)] 38))) | (at_builtin; refine wpList_app_F2 w.heap.size (g := w5.heap.size) (a0 := X0 + Y0) (a1 := X1 + Y1) rfl _ _ rfl (World.ownsRow.alloc (own_below HOi.out HB5.out) _) (by go_cell) (by go_cell) HBa.out.size rfl rfl (by omega) ?_; intro v' w6 hO6 hg6 hl6))
          obtain ⟨va', vc', rfl, _⟩ := own_viewF hO6
          have HO6 := Lib.hid hO6
          have HB6 : Hid (Below w.heap.size w w6) := Below.grown HBa.out hg6 HBa.out.size (fun k hk => (HOl.out k hk).1)
          have HX6 : Hid (Bk2 w6 wo.heap.size X0 X1) := ((HXi.out.below HB5.out).below ((Below.refl _ _).alloc (Nat.le_refl _) _)).grows hg6 HNi.out
          have HN6 : Hid ((Value.slice va' (i * nb + k + 1) vc').ownBlock ≠ some wo.heap.size) := fun e => by
            rcases hl6 with h | h
            · rw [h] at e; exact HNi.out e
            · rw [h] at e
              have := HXi.out.2.2
              simp only [World.size_alloc, Option.some.injEq] at e
              omega
          clear hO6 hg6 hl6
          go_roundw
          case rel => exact ⟨k + 1, va', vc', rfl, by go_num, by omega, by rw [HSk.out]; exact HO6.out, HB6.out, HX6.out, HN6.out⟩
          case measure => simp [intOf]; omega
        · have hke : k = nb := by omega
          have k2 : ¬ (k : Int) < (nb : Int) := by omega
          have HO7 : Hid (OwnF w.heap.size wi (.slice ua ((i + 1) * nb) uc) ((i + 1) * nb) (flat (sums (A.take (i + 1)) B))) := by
            have := HOi.out
            rw [hke, ← HNB.out, HSE.out, HNB.out] at this
            rw [Nat.succ_mul]
            exact this
          clear hO hBe hX hne
          go_wp2_with fail
          go_roundw
          case rel => exact ⟨i + 1, ua, uc, by rw [hke, Nat.succ_mul], by go_num, by omega, HO7.out, HBi.out⟩
          case measure => simp [intOf]; omega
    · have hie : i = na := by omega
      subst hie
      have q2 : ¬ (i : Int) < (i : Int) := by omega
      rw [HTK.out] at hO
      have hlv := LV.of_own hO HSL.out (by have := HLE.out.2; omega)
      obtain ⟨g, rfl, hg, hcs⟩ := hlv.2.2 HLE.out.1
      have HH : Hid (Calls Try.prog 59 #[.slice (some ⟨g, 0, none⟩) (i * nb) vc] wo (RetP wo (hlP (sums A B)) (flat (hulP (sums A B))))) :=
        hullOf_any g (i * nb) vc (sums A B) wo HLE.out.1 HSL.out (by have := HLE.out.2; omega) hg hcs (by rw [← HSL.out]; exact all_pt HSP.out)
      have hml : hlP (sums A B) ≤ 13 := (clo_ok (hF (sums A B)) (hsq (sums A B) (hF (sums A B))) 12 1).2.1
      have hln := hulP_len (sums A B)
      have hk3 : ¬ hlP (sums A B) < 3 := by omega
      cases ho : tlOk (sums A B)
      · have e3 : tlL (sums A B) = [] := by unfold tlL; rw [if_neg hk3, ho]; rfl
        have e4 : tlC (sums A B) = 3 := by unfold tlC; rw [if_neg hk3, ho]; rfl
        have HE3 := Lib.hid e3
        have HE4 := Lib.hid e4
        unfold tlOk at ho
        have HLM : Hid (∀ W va vc, LV W va (hlP (sums A B)) (hulP (sums A B)) → Calls Try.prog 60 #[.slice va (hlP (sums A B)) vc] W fun e w' => e = .returned (.tuple #[.slice none 0 0, .int .i64 3]) ∧ Below W.heap.size W w') := fun W va vc hl => limited_no va _ vc _ W (by omega) hl ho
        have HLN := Lib.hid hln
        obtain ⟨M, hM⟩ : ∃ M, hlP (sums A B) = M := ⟨_, rfl⟩
        rw [hM] at HH HLM HLN hml
        clear hM e3 e4 hln hk3 ho hcs hlv hO hBe
        go_wp2_with (first | (go_at_call 59; refine HH.out.mono ?_; rintro e w2 ⟨v, rfl, ho, hb2⟩; obtain ⟨va, vc2, rfl, _⟩ := own_viewF ho) | (go_at_call 60; refine (HLM.out _ _ _ (LV.of_own ho HLN.out (by omega))).mono ?_; rintro e w3 ⟨rfl, hb3⟩))
        refine bodyPost_ret (v := .tuple #[.slice none 0 0, .int .i64 3]) (by simp (maxDischargeDepth := 8) [results, Try.results46, go_sem, *]) rfl ?_
        rw [HE3.out, HE4.out]
        exact RetPC.nil (below_after hb3 (below_after hb2 HBo.out))
      · have e3 : tlL (sums A B) = hulP (sums A B) := by unfold tlL; rw [if_neg hk3, ho]; rfl
        have e4 : tlC (sums A B) = 0 := by unfold tlC; rw [if_neg hk3, ho]; rfl
        have HE3 := Lib.hid e3
        have HE4 := Lib.hid e4
        unfold tlOk at ho
        simp only [Bool.and_eq_true, decide_eq_true_eq] at ho
        have HLM : Hid (∀ W va vc, LV W va (hlP (sums A B)) (hulP (sums A B)) → Calls Try.prog 60 #[.slice va (hlP (sums A B)) vc] W fun e w' => e = .returned (.tuple #[.slice va (hlP (sums A B)) vc, .int .i64 0]) ∧ Below W.heap.size W w') := fun W va vc hl => limited_yes va _ vc _ W (by omega) hl ho.1 ho.2
        have HLN := Lib.hid hln
        obtain ⟨M, hM⟩ : ∃ M, hlP (sums A B) = M := ⟨_, rfl⟩
        rw [hM] at HH HLM HLN hml
        clear hM e3 e4 hln hk3 ho hcs hlv hO hBe
        go_wp2_with (first | (go_at_call 59; refine HH.out.mono ?_; rintro e w2 ⟨v, rfl, ho, hb2⟩; obtain ⟨va, vc2, rfl, _⟩ := own_viewF ho) | (go_at_call 60; refine (HLM.out _ _ _ (LV.of_own ho HLN.out (by omega))).mono ?_; rintro e w3 ⟨rfl, hb3⟩))
        refine bodyPost_ret (v := .tuple #[.slice va M vc2, .int .i64 0]) (by simp (maxDischargeDepth := 8) [results, Try.results46, go_sem, *]) rfl ?_
        rw [HE3.out, HE4.out]
        exact ⟨_, rfl, by rw [HLN.out]; exact own_below (own_lower ho hso) hb3, below_after hb3 (below_after hb2 HBo.out)⟩
theorem impl_AddPolygons_any (a b : Option Addr) (na ca nb cb : Nat) (A B : List (Int × Int)) (w : World) (vA : LV w a na A) (vB : LV w b nb B) :
    Calls Try.prog 46 #[.slice a na ca, .slice b nb cb] w (RetPC w (adL A B) (adC A B)) := by
  cases hA : isP A
  · have HPA := Lib.hid (impl_IsPolygon_any a na ca A w vA)
    rw [hA] at HPA
    rw [(ad_no1 hA).1, (ad_no1 hA).2]
    clear vA vB hA
    go_enter Try.func46, Try.ntmps46
    go_wp2_with (go_at_call 20; refine HPA.out.mono ?_; rintro e w1 ⟨rfl, hb1⟩)
    refine bodyPost_ret (v := .tuple #[.slice none 0 0, .int .i64 1]) (by simp (maxDischargeDepth := 8) [results, Try.results46, go_sem, *]) rfl ?_
    exact RetPC.nil hb1
  · cases hB : isP B
    · have HPA := Lib.hid (impl_IsPolygon_any a na ca A w vA)
      have HPB : Hid (∀ w1, Below w.heap.size w w1 → Calls Try.prog 20 #[.slice b nb cb] w1 fun e w' => e = .returned (.bool false) ∧ Below w1.heap.size w1 w') := fun w1 hb => by
        have := impl_IsPolygon_any b nb cb B w1 (vB.below hb)
        rwa [hB] at this
      rw [hA] at HPA
      rw [(ad_no2 hA hB).1, (ad_no2 hA hB).2]
      clear vA vB hA hB
      go_enter Try.func46, Try.ntmps46
      go_wp2_with (first | (go_at_call 20; have hh := HPB.out _ hb1; refine hh.mono ?_; clear hh; rintro e w2 ⟨rfl, hb2⟩) | (go_at_call 20; refine HPA.out.mono ?_; rintro e w1 ⟨rfl, hb1⟩))
      refine bodyPost_ret (v := .tuple #[.slice none 0 0, .int .i64 1]) (by simp (maxDischargeDepth := 8) [results, Try.results46, go_sem, *]) rfl ?_
      exact RetPC.nil (below_after hb2 hb1)
    · exact impl_Add_yes a b na ca nb cb A B w hA hB vA vB
end Go.Proofs.Ytkfoelkkllpmdaa
