/-
  AddPolygons in the model at any lists (own work).
-/
import Derived.Test.YtkfoelkkllpmdaaPgT
namespace Go.Proofs.Ytkfoelkkllpmdaa
open Go.ChangeShapes Go.WideShapes Go.ChangeAt Go.RowKit
set_option linter.unusedVariables false
set_option maxRecDepth 100000
set_option linter.unusedSimpArgs false
set_option maxRecDepth 100000

theorem l09Code_two (a d : Option Addr) (n cap m dap b c : Nat) (ps qs : List (Int × Int)) (w : World) (h : LV w a n ps) (h2 : LV w d m qs) (hb : b < w.heap.size) (hc : w.cell? ⟨b, 0, none⟩ = some (.slice a n cap)) (hc2 : w.cell? ⟨b, 1, none⟩ = some (.slice d m dap)) (C : Int) (hC : C = if isP ps = true then (if isP qs = true then 0 else 1) else 1) :
    Calls Try.prog 61 #[.slice (some ⟨b, 0, none⟩) 2 c] w fun e w' => e = .returned (.int .i64 C) ∧ Below w.heap.size w w' := by
  have HLV := Lib.hid h
  have HLW := Lib.hid h2
  have HC := Lib.hid hc
  have HD := Lib.hid hc2
  have HR := Lib.hid hC
  clear h h2 hc hc2 hC
  go_enter Try.func61, Try.ntmps61
  go_wp2_with fail
  go_loopw [3] (fun t3 wr => ∃ (j : Nat), t3 = .int .i64 (j : Int) ∧ j ≤ 2 ∧ (1 ≤ j → isP ps = true) ∧ (2 ≤ j → isP qs = true) ∧ Below w.heap.size w wr) (fun t3 _ => 2 - (intOf t3).toNat)
  case atStart => exact ⟨0, rfl, by omega, fun h => by omega, fun h => by omega, Below.refl _ _⟩
  case round =>
    obtain ⟨j, rfl, hj, hP, hQ, hB⟩ := hrel
    by_cases hj0 : j = 0
    · subst hj0
      have c0 := (hB.cell (p := ⟨b, 0, none⟩) hb).trans HC.out
      have HI := Lib.hid (l09Is_any a n cap ps wr (HLV.out.below hB))
      cases hp : isP ps
      · rw [hp] at HI
        have HE : Hid (C = 1) := by show C = 1; rw [HR.out, hp]; rfl
        clear hP hQ hp
        go_wp2_with (go_at_call 52; refine HI.out.mono ?_; rintro e w1 ⟨rfl, hb1⟩)
        go_ret
        exact ⟨by rw [HE.out]; rfl, below_after hb1 hB⟩
      · rw [hp] at HI
        have HE := Lib.hid hp
        clear hP hQ hp
        go_wp2_with (go_at_call 52; refine HI.out.mono ?_; rintro e w1 ⟨rfl, hb1⟩)
        go_roundw
        case rel => exact ⟨1, by go_num, by omega, fun _ => (by first | exact HE.out | trivial), fun h => by omega, below_after hb1 hB⟩
        case measure => simp only [intOf]; omega
    · by_cases hj1 : j = 1
      · subst hj1
        have c0 := (hB.cell (p := ⟨b, 1, none⟩) hb).trans HD.out
        have HI := Lib.hid (l09Is_any d m dap qs wr (HLW.out.below hB))
        have HP := Lib.hid (hP (by omega))
        cases hp : isP qs
        · rw [hp] at HI
          have HE : Hid (C = 1) := by show C = 1; rw [HR.out, HP.out, hp]; rfl
          clear hP hQ hp hj0
          go_wp2_with (go_at_call 52; refine HI.out.mono ?_; rintro e w1 ⟨rfl, hb1⟩)
          go_ret
          exact ⟨by rw [HE.out]; rfl, below_after hb1 hB⟩
        · rw [hp] at HI
          have HE := Lib.hid hp
          clear hP hQ hp hj0
          go_wp2_with (go_at_call 52; refine HI.out.mono ?_; rintro e w1 ⟨rfl, hb1⟩)
          go_roundw
          case rel => exact ⟨2, by go_num, by omega, fun _ => (by first | exact HP.out | trivial), fun _ => (by first | exact HE.out | trivial), below_after hb1 hB⟩
          case measure => simp only [intOf]; omega
      · obtain rfl : j = 2 := by omega
        have HE : Hid (C = 0) := by show C = 0; rw [HR.out, hP (by omega), hQ (by omega)]; rfl
        clear hP hQ hj0 hj1
        go_wp2_with fail
        go_ret
        exact ⟨by rw [HE.out]; rfl, hB⟩
set_option maxHeartbeats 8000000 in
theorem spec_AddPolygons_any (a b : Option Addr) (na ca nb cb : Nat) (A B : List (Int × Int)) (w : World) (vA : LV w a na A) (vB : LV w b nb B) :
    Calls Try.prog 45 #[.slice a na ca, .slice b nb cb] w (RetPC w (adL A B) (adC A B)) := by
  have HVA := Lib.hid vA
  have HVB := Lib.hid vB
  obtain ⟨C, hC⟩ : ∃ C : Int, C = if isP A = true then (if isP B = true then 0 else 1) else 1 := ⟨_, rfl⟩
  have HCO : Hid (∀ t, Calls Try.prog 61 #[.slice (some ⟨w.heap.size, 0, none⟩) 2 2] (w.alloc (.cells #[.slice a na ca, .slice b nb cb] t)) fun e w' => e = .returned (.int .i64 C) ∧ Below (w.alloc (.cells #[.slice a na ca, .slice b nb cb] t)).heap.size (w.alloc (.cells #[.slice a na ca, .slice b nb cb] t)) w') := fun t =>
    l09Code_two a b na ca nb cb w.heap.size 2 A B (w.alloc (.cells #[.slice a na ca, .slice b nb cb] t)) (HVA.out.below (by (repeat' (first | (with_reducible exact Below.refl _ _) | (with_reducible refine Below.alloc ?_ ?_ _) | (with_reducible refine Below.setCell ?_ ?_ _) | (with_reducible refine Below.drew ?_) | (with_reducible refine below_drewN ?_ _) | (with_reducible assumption) | (with_reducible refine below_after (by with_reducible assumption) ?_) | go_size)))) (HVB.out.below (by (repeat' (first | (with_reducible exact Below.refl _ _) | (with_reducible refine Below.alloc ?_ ?_ _) | (with_reducible refine Below.setCell ?_ ?_ _) | (with_reducible refine Below.drew ?_) | (with_reducible refine below_drewN ?_ _) | (with_reducible assumption) | (with_reducible refine below_after (by with_reducible assumption) ?_) | go_size)))) (by simp) (by go_cell) (by go_cell) C hC
  by_cases h0 : C = 0
  · have hA : isP A = true := by
      apply Classical.byContradiction
      intro hn
      rw [if_neg hn] at hC
      omega
    have hB : isP B = true := by
      apply Classical.byContradiction
      intro hn
      rw [if_pos hA, if_neg hn] at hC
      omega
    subst h0
    rw [(ad_yes hA hB).1, (ad_yes hA hB).2]
    obtain ⟨ga, rfl, hna, na3, na12, hga, hca, hia⟩ := vA.poly hA
    obtain ⟨gb, rfl, hnb, nb3, nb12, hgb, hcb, hib⟩ := vB.poly hB
    have HNA := Lib.hid hna
    have HNB := Lib.hid hnb
    have HCA := Lib.hid hca
    have HCB := Lib.hid hcb
    have HIA : Hid (∀ k, isPt (A.getD k (0, 0)) = true) := fun k => by
      by_cases hk : k < A.length
      · have := isS_iff.1 (List.all_eq_true.1 hia _ (getD_in hk))
        unfold Sml at this
        unfold isPt
        rw [Bool.and_eq_true]
        exact ⟨crd_iff.2 ⟨by omega, by omega⟩, crd_iff.2 ⟨by omega, by omega⟩⟩
      · rw [List.getD_eq_getElem?_getD, List.getElem?_eq_none (by omega)]; decide
    have HIB : Hid (∀ k, isPt (B.getD k (0, 0)) = true) := fun k => by
      by_cases hk : k < B.length
      · have := isS_iff.1 (List.all_eq_true.1 hib _ (getD_in hk))
        unfold Sml at this
        unfold isPt
        rw [Bool.and_eq_true]
        exact ⟨crd_iff.2 ⟨by omega, by omega⟩, crd_iff.2 ⟨by omega, by omega⟩⟩
      · rw [List.getD_eq_getElem?_getD, List.getElem?_eq_none (by omega)]; decide
    have HSP := Lib.hid (sums_pt hia hib)
    have HSL : Hid ((sums A B).length = na * nb) := by show _ = _; rw [sums_len, hna, hnb]
    have HLE : Hid (1 ≤ na * nb ∧ na * nb ≤ 144) := ⟨Nat.mul_le_mul (show 1 ≤ na by omega) (show 1 ≤ nb by omega), Nat.mul_le_mul na12 nb12⟩
    have HLI : Hid (∀ i k, i < na → k ≤ nb → i * nb + k ≤ 144) := fun i k hi hk => by
      have : i * nb ≤ 11 * 12 := Nat.mul_le_mul (by omega) nb12
      omega
    have HTK : Hid (A.take na = A) := List.take_of_length_le (by omega)
    have HG := Lib.hid (And.intro hga hgb)
    clear vA vB hA hB hna hnb hca hcb hia hib hga hgb hC
    go_enter Try.func45, Try.ntmps45
    go_wp2_with (go_at_call 61; refine (HCO.out _).mono ?_; rintro e w1 ⟨rfl, hb1⟩; have HB1 : Hid (Below w.heap.size w w1) := (by show Below w.heap.size w w1; refine below_after hb1 ?_; (repeat' (first | (with_reducible exact Below.refl _ _) | (with_reducible refine Below.alloc ?_ ?_ _) | (with_reducible refine Below.setCell ?_ ?_ _) | (with_reducible refine Below.drew ?_) | (with_reducible refine below_drewN ?_ _) | (with_reducible assumption) | (with_reducible refine below_after (by with_reducible assumption) ?_) | go_size))))
    have hs1 := HB1.out.size
    clear hb1 HCO
    go_loopw [7, 8] (fun t7 t8 wr => ∃ (i : Nat) (va : Option Addr) (vc : Nat), t7 = .slice va (i * nb) vc ∧ t8 = .int .i64 i ∧ i ≤ na ∧ OwnF w.heap.size wr (.slice va (i * nb) vc) (i * nb) (flat (sums (A.take i) B)) ∧ Below w.heap.size w wr) (fun _ t8 _ => na - (intOf t8).toNat)
    case atStart =>
      refine ⟨0, some ⟨w1.heap.size, 0, none⟩, 0, by rw [Nat.zero_mul], by go_num, by omega, ?_, HB1.out.alloc hs1 _⟩
      rw [Nat.zero_mul]
      exact World.ownsRow_lit w1 #[] 0 hs1 (by unfold maxLen; omega) rfl
    case round =>
      obtain ⟨i, va, vc, rfl, rfl, hi, hO, hBe⟩ := hrel
      obtain ⟨wo, rfl⟩ : ∃ x, x = wr := ⟨_, rfl⟩
      have HO := Lib.hid hO
      have HBo := Lib.hid hBe
      have hso := hBe.size
      by_cases hlt : i < na
      · have HPX := Lib.hid (HIA.out i)
        have HCX : Hid (∀ W, Below w.heap.size w W → W.cell? ⟨ga, i * 2, none⟩ = some (.int .i64 (A.getD i (0, 0)).1) ∧ W.cell? ⟨ga, i * 2 + 1, none⟩ = some (.int .i64 (A.getD i (0, 0)).2)) := fun W hW => by
          have x2 := ptCells_kept HCA.out (hW.block ga HG.out.1) i (by have := HNA.out; omega)
          rw [Nat.zero_add] at x2
          exact x2
        have HSE := Lib.hid (sumK_end (A := A) (B := B) (i := i) (by have := HNA.out; omega))
        have HSS : Hid (∀ k, k < nb → flat (sumK A B i (k + 1)) = flat (sumK A B i k) ++ [(adv (A.getD i (0, 0)) (B.getD k (0, 0))).1, (adv (A.getD i (0, 0)) (B.getD k (0, 0))).2]) := fun k hk => sumK_succ (by have := HNB.out; omega)
        obtain ⟨X0, X1, hX⟩ : ∃ x y, A.getD i (0, 0) = (x, y) := ⟨_, _, rfl⟩
        rw [hX] at HPX HSS HCX
        have q1 : (0 : Int) ≤ (i : Int) := by omega
        have q2 : (i : Int) < (na : Int) := by omega
        have qa : IntKind.i64.wrap ((i : Int) + 1) = (i : Int) + 1 := by rw [IntKind.wrap_i64]; omega
        clear hX hO hBe
        go_wp2_with fail
        go_loopw [7, 9] (fun t7 t9 wi => ∃ (k : Nat) (va : Option Addr) (vc : Nat), t7 = .slice va (i * nb + k) vc ∧ t9 = .int .i64 k ∧ k ≤ nb ∧ OwnF w.heap.size wi (.slice va (i * nb + k) vc) (i * nb + k) (flat (sumK A B i k)) ∧ Below w.heap.size w wi) (fun _ t9 _ => nb - (intOf t9).toNat)
        case atStart => exact ⟨0, va, vc, rfl, by go_num, by omega, by rw [sumK_zero]; exact HO.out, HBo.out⟩
        case round =>
          obtain ⟨k, ua, uc, rfl, rfl, hk, hO, hBe⟩ := hrel
          obtain ⟨wi, rfl⟩ : ∃ x, x = wr := ⟨_, rfl⟩
          have HOi := Lib.hid hO
          have HBi := Lib.hid hBe
          by_cases hklt : k < nb
          · have HPY := Lib.hid (HIB.out k)
            have HSk := Lib.hid (HSS.out k hklt)
            have HCY : Hid (∀ W, Below w.heap.size w W → W.cell? ⟨gb, k * 2, none⟩ = some (.int .i64 (B.getD k (0, 0)).1) ∧ W.cell? ⟨gb, k * 2 + 1, none⟩ = some (.int .i64 (B.getD k (0, 0)).2)) := fun W hW => by
              have x2 := ptCells_kept HCB.out (hW.block gb HG.out.2) k (by have := HNB.out; omega)
              rw [Nat.zero_add] at x2
              exact x2
            obtain ⟨Y0, Y1, hY⟩ : ∃ x y, B.getD k (0, 0) = (x, y) := ⟨_, _, rfl⟩
            rw [hY] at HPY HSk HCY
            have HCW : Hid (∀ W, Below w.heap.size w W → W.cell? ⟨ga, i * 2, none⟩ = some (.int .i64 X0) ∧ W.cell? ⟨ga, i * 2 + 1, none⟩ = some (.int .i64 X1) ∧ W.cell? ⟨gb, k * 2, none⟩ = some (.int .i64 Y0) ∧ W.cell? ⟨gb, k * 2 + 1, none⟩ = some (.int .i64 Y1)) := fun W hW => by
              have p := HCX.out W hW
              have q := HCY.out W hW
              exact ⟨p.1, p.2, q.1, q.2⟩
            have HPL : Hid (∀ w, Calls Try.prog 80 #[.agg #[.int .i64 X0, .int .i64 X1], .agg #[.int .i64 Y0, .int .i64 Y1], .int .i64 1] w fun e w' => e = .returned (.agg #[.int .i64 (X0 + Y0), .int .i64 (X1 + Y1)]) ∧ Below w.heap.size w w') := fun w => by
              have := l01Plus_any X0 X1 Y0 Y1 1 w (isPt_bn1 HPX.out) (isPt_bn2 HPX.out) (isPt_bn1 HPY.out) (isPt_bn2 HPY.out) ⟨by omega, by omega⟩
              rwa [Int.one_mul, Int.one_mul] at this
            have k1 : (0 : Int) ≤ (k : Int) := by omega
            have k2 : (k : Int) < (nb : Int) := by omega
            have ka : IntKind.i64.wrap ((k : Int) + 1) = (k : Int) + 1 := by rw [IntKind.wrap_i64]; omega
            have hle := HLI.out i k hlt (by omega)
            clear hY hO hBe
            go_wp2_with fail
            refine wp_region_held_drew (S := fun W => Below w.heap.size w W) (by kernel_rfl) ?_ (fun hHeld => ?_); focus ((try dsimp only); exact HBi.out.drew)
            have HO := Lib.hid (HOi.out.below (Below.drew (Below.refl _ _)))
            have hHeld : Below w.heap.size w _ := hHeld
            obtain ⟨wD, hwD⟩ : ∃ wD, wi.drew = wD := ⟨_, rfl⟩
            rw [hwD] at hHeld HO ⊢
            clear hwD
            (refine wpAnyH_take (i := 0) (v := ?_) rfl (by kernel_rfl) (by kernel_rfl) (by kernel_rfl) (fun _ _ _ h => h) (Or.inl ⟨rfl, ?_⟩) (by assumption) ?_; rotate_left; focus (intro W hSw; (try dsimp only at hSw); obtain ⟨i0, i1, i2, i3⟩ := HCW.out _ hSw; go_simp; try (with_reducible rfl))); (try simp only [Act.put, List.getElem_toArray, List.getElem_cons_succ, List.getElem_cons_zero, List.setIfInBounds_toArray, List.set_cons_zero, List.set_cons_succ])
            (refine wpAnyH_take (i := 1) (v := ?_) rfl (by kernel_rfl) (by kernel_rfl) (by kernel_rfl) (fun _ _ _ h => h) (Or.inl ⟨rfl, ?_⟩) (by assumption) ?_; rotate_left; focus (intro W hSw; (try dsimp only at hSw); obtain ⟨i0, i1, i2, i3⟩ := HCW.out _ hSw; go_simp; try (with_reducible rfl))); (try simp only [Act.put, List.getElem_toArray, List.getElem_cons_succ, List.getElem_cons_zero, List.setIfInBounds_toArray, List.set_cons_zero, List.set_cons_succ])
            (refine wpAnyH_take (i := 2) (v := ?_) rfl (by kernel_rfl) (by kernel_rfl) (by kernel_rfl) (fun _ _ _ h => h) (Or.inl ⟨rfl, ?_⟩) (by assumption) ?_; rotate_left; focus (intro W hSw; (try dsimp only at hSw); obtain ⟨i0, i1, i2, i3⟩ := HCW.out _ hSw; go_simp; try (with_reducible rfl))); (try simp only [Act.put, List.getElem_toArray, List.getElem_cons_succ, List.getElem_cons_zero, List.setIfInBounds_toArray, List.set_cons_zero, List.set_cons_succ])
            (refine wpAnyH_take (i := 3) (v := ?_) rfl (by kernel_rfl) (by kernel_rfl) (by kernel_rfl) (fun _ _ _ h => h) (Or.inl ⟨rfl, ?_⟩) (by assumption) ?_; rotate_left; focus (intro W hSw; (try dsimp only at hSw); obtain ⟨i0, i1, i2, i3⟩ := HCW.out _ hSw; go_simp; try (with_reducible rfl))); (try simp only [Act.put, List.getElem_toArray, List.getElem_cons_succ, List.getElem_cons_zero, List.setIfInBounds_toArray, List.set_cons_zero, List.set_cons_succ])
            (refine wpAnyH_take (i := 4) (v := ?_) rfl (by kernel_rfl) (by kernel_rfl) (by kernel_rfl) (fun _ _ _ h => h) (Or.inl ⟨rfl, ?_⟩) (by assumption) ?_; rotate_left; focus (intro W hSw; (try dsimp only at hSw); obtain ⟨i0, i1, i2, i3⟩ := HCW.out _ hSw; go_simp; try (with_reducible rfl))); (try simp only [Act.put, List.getElem_toArray, List.getElem_cons_succ, List.getElem_cons_zero, List.setIfInBounds_toArray, List.set_cons_zero, List.set_cons_succ])
            (refine wpAnyH_take (i := 5) (v := ?_) rfl (by kernel_rfl) (by kernel_rfl) (by kernel_rfl) (fun _ _ _ h => h) (Or.inl ⟨rfl, ?_⟩) (by assumption) ?_; rotate_left; focus (intro W hSw; (try dsimp only at hSw); obtain ⟨i0, i1, i2, i3⟩ := HCW.out _ hSw; go_simp; try (with_reducible rfl))); (try simp only [Act.put, List.getElem_toArray, List.getElem_cons_succ, List.getElem_cons_zero, List.setIfInBounds_toArray, List.set_cons_zero, List.set_cons_succ])
            (refine wpAnyH_take (i := 6) (v := ?_) rfl (by kernel_rfl) (by kernel_rfl) (by kernel_rfl) (fun _ _ _ h => h) (Or.inl ⟨rfl, ?_⟩) (by assumption) ?_; rotate_left; focus (intro W hSw; (try dsimp only at hSw); obtain ⟨i0, i1, i2, i3⟩ := HCW.out _ hSw; go_simp; try (with_reducible rfl))); (try simp only [Act.put, List.getElem_toArray, List.getElem_cons_succ, List.getElem_cons_zero, List.setIfInBounds_toArray, List.set_cons_zero, List.set_cons_succ])
            (refine wpAnyH_take (i := 7) (v := ?_) rfl (by kernel_rfl) (by kernel_rfl) (by kernel_rfl) (fun _ _ _ h => h) (Or.inl ⟨rfl, ?_⟩) (by assumption) ?_; rotate_left; focus (intro W hSw; (try dsimp only at hSw); obtain ⟨i0, i1, i2, i3⟩ := HCW.out _ hSw; go_simp; try (with_reducible rfl))); (try simp only [Act.put, List.getElem_toArray, List.getElem_cons_succ, List.getElem_cons_zero, List.setIfInBounds_toArray, List.set_cons_zero, List.set_cons_succ])
            (refine wpAnyH_take (i := 8) (v := ?_) rfl (by kernel_rfl) (by kernel_rfl) (by kernel_rfl) (fun _ _ _ h => h) (Or.inl ⟨rfl, ?_⟩) (by assumption) ?_; rotate_left; focus (intro W hSw; (try dsimp only at hSw); obtain ⟨i0, i1, i2, i3⟩ := HCW.out _ hSw; go_simp; try (with_reducible rfl))); (try simp only [Act.put, List.getElem_toArray, List.getElem_cons_succ, List.getElem_cons_zero, List.setIfInBounds_toArray, List.set_cons_zero, List.set_cons_succ])
            refine wpAnyH_ready (rs := [9]) (by kernel_rfl) (by simp) ?_; refine AllReadyH.cons rfl (fun K hK => ?_) AllReadyH.nil
            go_simp; (go_at_call 80; refine (HPL.out _).mono ?_; rintro en yw0 ⟨rfl, hb2⟩); have HO := Lib.hid (HO.out.below hb2); refine hK.out _ _ (below_after hb2 hHeld) (fun hHeld2 => ?_); clear hb2; (clear hHeld; rename _ => hHeld; clear hK K; have hHeld : Below w.heap.size w _ := hHeld); (try simp only [Act.put, List.getElem_toArray, List.getElem_cons_succ, List.getElem_cons_zero, List.setIfInBounds_toArray, List.set_cons_zero, List.set_cons_succ])
            refine wpAnyH_ready (rs := [10]) (by kernel_rfl) (by simp) ?_; refine AllReadyH.cons rfl (fun K hK => ?_) AllReadyH.nil
            go_simp; obtain ⟨GS, hGS⟩ : ∃ G, yw0.heap.size = G := ⟨_, rfl⟩; have le_S : w.heap.size ≤ GS := by rw [← hGS]; exact Below.size hHeld
            have HO := Lib.hid (HO.out.below ((Below.refl _ _).alloc (Nat.le_refl _) (Obj.cells #[Value.int .i64 (X0 + Y0), Value.int .i64 (X1 + Y1)] 38))); skip
            have HS : Hid (Bk2 (yw0.alloc (Obj.cells #[Value.int .i64 (X0 + Y0), Value.int .i64 (X1 + Y1)] 38)) GS (X0 + Y0) (X1 + Y1)) := by rw [← hGS]; exact bk2_new yw0 (X0 + Y0) (X1 + Y1) _
            refine hK.out _ _ (Below.alloc hHeld (Below.size hHeld) _) (fun hHeld2 => ?_); (clear hHeld; rename _ => hHeld; clear hK K; have hHeld : Below w.heap.size w _ := hHeld); (try simp only [Act.put, List.getElem_toArray, List.getElem_cons_succ, List.getElem_cons_zero, List.setIfInBounds_toArray, List.set_cons_zero, List.set_cons_succ])
            rw [hGS]; clear hGS; obtain ⟨yw1, hwx⟩ : ∃ wx, yw0.alloc (Obj.cells #[Value.int .i64 (X0 + Y0), Value.int .i64 (X1 + Y1)] 38) = wx := ⟨_, rfl⟩; rw [hwx] at HO HS hHeld ⊢; clear hwx
            refine wpAnyH_ready (rs := [11]) (by kernel_rfl) (by simp) ?_; refine AllReadyH.cons rfl (fun K hK => ?_) AllReadyH.nil
            refine wp_append_atF w.heap.size _ _ rfl HO.out HS.out.1.1 HS.out.1.2 (Below.size hHeld) rfl rfl (by omega) ?_; intro v' yw2 hown' hgr hat
            have HN := Lib.hid hown'; have hBn := Below.grown hHeld hgr (Below.size hHeld) (fun k hk => (World.ownsRow.lt HO.out k hk).1)
            obtain ⟨va', vc', rfl, _⟩ := own_viewF hown'
            refine hK.out _ _ hBn (fun hHeld2 => ?_); clear hown' hgr hat hBn; (clear hHeld; rename _ => hHeld; clear hK K; have hHeld : Below w.heap.size w _ := hHeld); (try simp only [Act.put, List.getElem_toArray, List.getElem_cons_succ, List.getElem_cons_zero, List.setIfInBounds_toArray, List.set_cons_zero, List.set_cons_succ])
            (refine wpAnyH_take (i := 12) (v := ?_) rfl (by kernel_rfl) (by kernel_rfl) (by kernel_rfl) (fun _ _ _ h => h) (Or.inl ⟨rfl, ?_⟩) (by assumption) ?_; rotate_left; focus (intro W hSw; (try dsimp only at hSw); obtain ⟨i0, i1, i2, i3⟩ := HCW.out _ hSw; go_simp; try (with_reducible rfl))); (try simp only [Act.put, List.getElem_toArray, List.getElem_cons_succ, List.getElem_cons_zero, List.setIfInBounds_toArray, List.set_cons_zero, List.set_cons_succ])
            refine wpAnyH_done (by kernel_rfl) ?_ _
            have HB6 := Lib.hid hHeld
            clear hHeld HOi HBi HO
            go_wp2_with fail
            go_roundw
            case rel => exact ⟨k + 1, va', vc', rfl, by go_num, by omega, by rw [HSk.out]; exact HN.out, HB6.out⟩
            case measure => simp [intOf]; omega
          · have hke : k = nb := by omega
            have k2 : ¬ (k : Int) < (nb : Int) := by omega
            have HO7 : Hid (OwnF w.heap.size wi (.slice ua ((i + 1) * nb) uc) ((i + 1) * nb) (flat (sums (A.take (i + 1)) B))) := by
              have := HOi.out
              rw [hke, ← HNB.out, HSE.out, HNB.out] at this
              rw [Nat.succ_mul]
              exact this
            clear hO hBe
            go_wp2_with fail
            go_roundw
            case rel => exact ⟨i + 1, ua, uc, by rw [hke, Nat.succ_mul], by go_num, by omega, HO7.out, HBi.out⟩
            case measure => simp [intOf]; omega
      · have hie : i = na := by omega
        subst hie
        have q2 : ¬ (i : Int) < (i : Int) := by omega
        rw [HTK.out] at hO
        have hlv := LV.of_own hO HSL.out (by have := HLE.out.2; omega)
        obtain ⟨g, rfl, hg, hcs⟩ := hlv.2.2 HLE.out.1
        have HH : Hid (Calls Try.prog 57 #[.slice (some ⟨g, 0, none⟩) (i * nb) vc] wo (RetPC wo (tlL (sums A B)) (tlC (sums A B)))) :=
          told_some g (i * nb) vc (sums A B) wo HLE.out.1 HSL.out (by have := HLE.out.2; omega) hg hcs (by rw [← HSL.out]; exact all_pt HSP.out)
        clear hcs hlv hO hBe
        go_wp2_with (go_at_call 57; refine HH.out.mono ?_; rintro e w2 ⟨v, rfl, ho, hb2⟩; obtain ⟨va, vc2, rfl, _⟩ := own_viewF ho)
        refine bodyPost_ret (v := .tuple #[.slice va (tlL (sums A B)).length vc2, .int .i64 (tlC (sums A B))]) (by simp (maxDischargeDepth := 8) [results, Try.results45, go_sem, *]) rfl ?_
        exact ⟨_, rfl, own_lower ho hso, below_after hb2 HBo.out⟩
  · have hC1 : C = 1 := by
      rw [hC] at h0 ⊢
      split at h0
      · split at h0
        · exact absurd rfl h0
        · rw [if_pos (by assumption), if_neg (by assumption)]
      · rw [if_neg (by assumption)]
    have e : adL A B = [] ∧ adC A B = 1 := by
      cases hA : isP A
      · exact ad_no1 hA
      · cases hB : isP B
        · exact ad_no2 hA hB
        · rw [hA, hB] at hC; exact absurd hC h0
    rw [e.1, e.2]
    subst hC1
    clear h0 hC e vA vB HVA HVB
    go_enter Try.func45, Try.ntmps45
    go_wp2_with (go_at_call 61; refine (HCO.out _).mono ?_; rintro e w1 ⟨rfl, hb1⟩; have HB1 : Hid (Below w.heap.size w w1) := (by show Below w.heap.size w w1; refine below_after hb1 ?_; (repeat' (first | (with_reducible exact Below.refl _ _) | (with_reducible refine Below.alloc ?_ ?_ _) | (with_reducible refine Below.setCell ?_ ?_ _) | (with_reducible refine Below.drew ?_) | (with_reducible refine below_drewN ?_ _) | (with_reducible assumption) | (with_reducible refine below_after (by with_reducible assumption) ?_) | go_size))))
    refine bodyPost_ret (v := .tuple #[.slice none 0 0, .int .i64 1]) (by simp (maxDischargeDepth := 8) [results, Try.results45, go_sem, *]) rfl ?_
    exact RetPC.nil HB1.out
end Go.Proofs.Ytkfoelkkllpmdaa
