/-
  The corner behind a corner, as the program looks for it (own work).
-/
import Derived.Test.YtkfoelkkllpmdaaPgY
import Derived.Scope
namespace Go.Proofs.Ytkfoelkkllpmdaa
open Go.ChangeShapes Go.WideShapes Go.ChangeAt Go.RowKit
set_option linter.unusedVariables false
set_option maxRecDepth 100000
set_option linter.unusedSimpArgs false
set_option maxRecDepth 100000

def badP (a b c : Int × Int) : Bool := decide (trn a b c < 0) || (decide (trn a b c = 0) && decide (gcv (sbv b a) < gcv (sbv c a)))
theorem badP_lt {a b c : Int × Int} (h : trn a b c < 0) : badP a b c = true := by simp [badP, h]
theorem badP_gt {a b c : Int × Int} (h : ¬ trn a b c < 0) (k : ¬ trn a b c = 0) : badP a b c = false := by simp [badP, h, k]
theorem badP_eq {a b c : Int × Int} (h : trn a b c = 0) : badP a b c = decide (lenP a b < lenP a c) := by simp [badP, h]; rfl
theorem okc_all {L : List (Int × Int)} {a b : Int × Int} (h : ∀ i, i < L.length → badP a b (L.getD i (0, 0)) = false) : okc L a b = true := by
  unfold okc
  rw [List.all_eq_true]
  intro c hc
  obtain ⟨i, hi, rfl⟩ := List.mem_iff_getElem.1 hc
  have := h i hi
  unfold badP at this
  simp only [List.getD, hi, List.getElem?_eq_getElem, Option.getD_some] at this
  rw [this]; rfl
theorem okc_bad {L : List (Int × Int)} {a b : Int × Int} {i : Nat} (hi : i < L.length) (h : badP a b (L.getD i (0, 0)) = true) : okc L a b = false := by
  unfold okc
  rw [List.all_eq_false]
  refine ⟨L[i], List.getElem_mem hi, ?_⟩
  unfold badP at h
  simp only [List.getD, hi, List.getElem?_eq_getElem, Option.getD_some] at h
  rw [h]; decide
theorem find_at {p : Int × Int → Bool} : ∀ {L : List (Int × Int)} {j : Nat}, (∀ i, i < j → p (L.getD i (0, 0)) = false) → j < L.length → p (L.getD j (0, 0)) = true → L.find? p = some (L.getD j (0, 0))
  | [], _, _, h, _ => by simp at h
  | x :: r, 0, _, _, h => by simp at h; simp [h]
  | x :: r, j + 1, h0, hj, h => by
    have h1 := h0 0 (by omega)
    simp at h1
    rw [List.find?_cons_of_neg (by rw [h1]; decide)]
    have := find_at (p := p) (L := r) (j := j) (fun i hi => by have := h0 (i + 1) (by omega); simpa using this) (by simpa using hj) (by simpa using h)
    rw [this]; simp
theorem find_no {p : Int × Int → Bool} : ∀ {L : List (Int × Int)}, (∀ i, i < L.length → p (L.getD i (0, 0)) = false) → L.find? p = none
  | [], _ => rfl
  | x :: r, h0 => by
    have h1 := h0 0 (by simp)
    simp at h1
    rw [List.find?_cons_of_neg (by rw [h1]; decide)]
    exact find_no (fun i hi => by have := h0 (i + 1) (by simpa using hi); simpa using this)
set_option maxHeartbeats 8000000 in
theorem nextOnHull_any (g n cap : Nat) (L : List (Int × Int)) (a0 a1 : Int) (w : World) (hn : L.length = n) (hm : n ≤ 140737488351232) (hg : g < w.heap.size) (hc : PtCells w g 0 L) (hpt : ∀ k, k < n → isPt (L.getD k (0, 0)) = true) (ha : isPt (a0, a1) = true) :
    Calls Try.prog 104 #[.slice (some ⟨g, 0, none⟩) n cap, .agg #[.int .i64 a0, .int .i64 a1]] w fun e w' => e = .returned (.agg #[.int .i64 (pnx L (a0, a1)).1, .int .i64 (pnx L (a0, a1)).2]) ∧ Below w.heap.size w w' := by
  have HC := Lib.hid hc
  have HN := Lib.hid hn
  have HPT := Lib.hid hpt
  have HPA := Lib.hid ha
  have HG := Lib.hid hg
  have HFA : Hid (∀ j, j < n → (∀ i, i < j → okc L (a0, a1) (L.getD i (0, 0)) = false) → okc L (a0, a1) (L.getD j (0, 0)) = true → pnx L (a0, a1) = L.getD j (0, 0)) := fun j hj h0 h1 => by
    unfold pnx; rw [find_at h0 (by omega) h1]; rfl
  have HFN : Hid ((∀ i, i < n → okc L (a0, a1) (L.getD i (0, 0)) = false) → pnx L (a0, a1) = (a0, a1)) := fun h0 => by
    unfold pnx; rw [find_no (fun i hi => h0 i (by omega))]; rfl
  obtain ⟨V0, V1, hV⟩ : ∃ x y, pnx L (a0, a1) = (x, y) := ⟨_, _, rfl⟩
  rw [hV] at HFA HFN ⊢
  dsimp only
  clear hc hn hpt ha hV hg
  go_enter Try.func104, Try.ntmps104
  go_wp2_with fail
  refine wp_scope_straight ?_
  go_wp2_with fail
  refine wp_label ?_
  go_wp2_with fail
  go_loopw [12] (fun i wr => ∃ j : Nat, j ≤ n ∧ i = .int .i64 j ∧ (∀ i, i < j → okc L (a0, a1) (L.getD i (0, 0)) = false) ∧ Bk2 wr w.heap.size a0 a1 ∧ Bk2 wr (w.heap.size + 1) 0 0 ∧ Below w.heap.size w wr) (fun i _ => n - (intOf i).toNat)
  case atStart =>
    refine ⟨0, by omega, by go_num, fun i hi => by omega, ?_, ?_, by (repeat' (first | (with_reducible exact Below.refl _ _) | (with_reducible refine Below.alloc ?_ ?_ _) | (with_reducible refine Below.setCell ?_ ?_ _) | (with_reducible refine Below.drew ?_) | (with_reducible refine below_drewN ?_ _) | (with_reducible assumption) | (with_reducible refine below_after (by with_reducible assumption) ?_) | go_size))⟩
    · exact (bk2_new w a0 a1 38).below (by (repeat' (first | (with_reducible exact Below.refl _ _) | (with_reducible refine Below.alloc ?_ ?_ _) | (with_reducible refine Below.setCell ?_ ?_ _) | (with_reducible refine Below.drew ?_) | (with_reducible refine below_drewN ?_ _) | (with_reducible assumption) | (with_reducible refine below_after (by with_reducible assumption) ?_) | go_size)))
    · have := bk2_new (w.alloc (.cells #[.int .i64 a0, .int .i64 a1] 38)) 0 0 38
      simpa using this
  case round =>
    obtain ⟨j, hj, rfl, hno, hA, hR, hbel⟩ := hrel
    obtain ⟨wo, rfl⟩ : ∃ x, x = wr := ⟨_, rfl⟩
    have HNO := Lib.hid hno
    have HA := Lib.hid hA
    have HR := Lib.hid hR
    have HBe := Lib.hid hbel
    have hsz := hbel.size
    clear hno
    by_cases hlt : j < n
    · have x2 := ptCells_kept HC.out (hbel.block g HG.out) j (by have := HN.out; omega)
      rw [Nat.zero_add] at x2
      have HPB := Lib.hid (HPT.out j hlt)
      have HF := Lib.hid (HFA.out j hlt HNO.out)
      have HOA : Hid ((∀ i, i < n → badP (a0, a1) (L.getD j (0, 0)) (L.getD i (0, 0)) = false) → okc L (a0, a1) (L.getD j (0, 0)) = true) := fun h => okc_all (fun i hi => h i (by have := HN.out; omega))
      have HOB : Hid (∀ i, i < n → badP (a0, a1) (L.getD j (0, 0)) (L.getD i (0, 0)) = true → ∀ i, i < j + 1 → okc L (a0, a1) (L.getD i (0, 0)) = false) := fun i hi h k hk => by
        by_cases hkj : k < j
        · exact HNO.out k hkj
        · have : k = j := by omega
          subst this
          exact okc_bad (by have := HN.out; omega) h
      obtain ⟨X0, X1, hX⟩ : ∃ x y, L.getD j (0, 0) = (x, y) := ⟨_, _, rfl⟩
      rw [hX] at x2 HPB HF HOA HOB
      dsimp only at x2
      obtain ⟨x0, x1⟩ := x2
      have glr := World.block_lt_of_cell? wo _ x0
      have q2 : (0 : Int) ≤ (j : Int) := by omega
      have q3 : (j : Int) < (n : Int) := by omega
      have qa : IntKind.i64.wrap ((j : Int) + 1) = (j : Int) + 1 := by rw [IntKind.wrap_i64]; omega
      clear hX hA hR hbel
      go_wp2_with fail
      obtain ⟨wb, hwb⟩ : ∃ wb, wb = wo.alloc (.cells #[.int .i64 X0, .int .i64 X1] 38) := ⟨_, rfl⟩
      rw [← hwb]
      have HBb : Hid (Below wo.heap.size wo wb) := by
        show Below wo.heap.size wo wb
        rw [hwb]; (repeat' (first | (with_reducible exact Below.refl _ _) | (with_reducible refine Below.alloc ?_ ?_ _) | (with_reducible refine Below.setCell ?_ ?_ _) | (with_reducible refine Below.drew ?_) | (with_reducible refine below_drewN ?_ _) | (with_reducible assumption) | (with_reducible refine below_after (by with_reducible assumption) ?_) | go_size))
      have HXb : Hid (Bk2 wb wo.heap.size X0 X1) := by show Bk2 wb wo.heap.size X0 X1; rw [hwb]; exact bk2_new wo X0 X1 _
      have HAb := Lib.hid (HA.out.below HBb.out)
      have HRb := Lib.hid (HR.out.below HBb.out)
      have HWb := Lib.hid (below_after HBb.out HBe.out)
      clear hwb x0 x1 glr
      go_loopw [18] (fun i wi => ∃ m : Nat, m ≤ n ∧ i = .int .i64 m ∧ (∀ i, i < m → badP (a0, a1) (X0, X1) (L.getD i (0, 0)) = false) ∧ Below wb.heap.size wb wi) (fun i _ => n - (intOf i).toNat)
      case atStart => exact ⟨0, by omega, by go_num, fun i hi => by omega, Below.refl _ _⟩
      case round =>
        obtain ⟨m, hmn, rfl, hok, hbi⟩ := hrel
        obtain ⟨wi, rfl⟩ : ∃ x, x = wr := ⟨_, rfl⟩
        have HOK := Lib.hid hok
        have HBi := Lib.hid hbi
        have hs1 := hbi.size
        have HWi := Lib.hid (below_after hbi HWb.out)
        have hs2 := HWi.out.size
        clear hok
        by_cases hmlt : m < n
        · have y2 := ptCells_kept HC.out (HWi.out.block g HG.out) m (by have := HN.out; omega)
          rw [Nat.zero_add] at y2
          have HPC := Lib.hid (HPT.out m hmlt)
          have HOBm := Lib.hid (HOB.out m hmlt)
          have HOKm : Hid (badP (a0, a1) (X0, X1) (L.getD m (0, 0)) = false → ∀ i, i < m + 1 → badP (a0, a1) (X0, X1) (L.getD i (0, 0)) = false) := fun h i hi => by
            by_cases hk : i < m
            · exact HOK.out i hk
            · have : i = m := by omega
              subst this; exact h
          obtain ⟨Y0, Y1, hY⟩ : ∃ x y, L.getD m (0, 0) = (x, y) := ⟨_, _, rfl⟩
          rw [hY] at y2 HPC HOBm HOKm
          dsimp only at y2
          obtain ⟨y0, y1⟩ := y2
          have glr := World.block_lt_of_cell? wi _ y0
          obtain ⟨B, hB⟩ : ∃ B, badP (a0, a1) (X0, X1) (Y0, Y1) = B := ⟨_, rfl⟩
          rw [hB] at HOBm HOKm
          obtain ⟨T, hT⟩ : ∃ T, trn (a0, a1) (X0, X1) (Y0, Y1) = T := ⟨_, rfl⟩
          have HTU : Hid (∀ w, Calls Try.prog 100 #[.agg #[.int .i64 a0, .int .i64 a1], .agg #[.int .i64 X0, .int .i64 X1], .agg #[.int .i64 Y0, .int .i64 Y1]] w fun e w' => e = .returned (.int .i64 T) ∧ Below w.heap.size w w') := fun w => by
            have := turnOf_any a0 a1 X0 X1 Y0 Y1 w HPA.out HPB.out HPC.out
            rwa [hT] at this
          obtain ⟨LB, hLB⟩ : ∃ V, lenP (a0, a1) (X0, X1) = V := ⟨_, rfl⟩
          obtain ⟨LC, hLC⟩ : ∃ V, lenP (a0, a1) (Y0, Y1) = V := ⟨_, rfl⟩
          have HLB : Hid (∀ w, Calls Try.prog 110 #[.agg #[.int .i64 a0, .int .i64 a1], .agg #[.int .i64 X0, .int .i64 X1]] w fun e w' => e = .returned (.int .i64 LB) ∧ Below w.heap.size w w') := fun w => by
            have := lengthBetween_any a0 a1 X0 X1 w (isPt_bn1 HPA.out) (isPt_bn2 HPA.out) (isPt_bn1 HPB.out) (isPt_bn2 HPB.out)
            rwa [hLB] at this
          have HLC : Hid (∀ w, Calls Try.prog 110 #[.agg #[.int .i64 a0, .int .i64 a1], .agg #[.int .i64 Y0, .int .i64 Y1]] w fun e w' => e = .returned (.int .i64 LC) ∧ Below w.heap.size w w') := fun w => by
            have := lengthBetween_any a0 a1 Y0 Y1 w (isPt_bn1 HPA.out) (isPt_bn2 HPA.out) (isPt_bn1 HPC.out) (isPt_bn2 HPC.out)
            rwa [hLC] at this
          have H1 : Hid (T < 0 → true = B) := fun h => by rw [← hB, badP_lt (by rw [hT]; exact h)]
          have H2 : Hid (¬ T < 0 → ¬ T = 0 → false = B) := fun h k => by rw [← hB, badP_gt (by rw [hT]; exact h) (by rw [hT]; exact k)]
          have H3 : Hid (T = 0 → decide (LB < LC) = B) := fun h => by rw [← hB, badP_eq (by rw [hT]; exact h), hLB, hLC]
          have k2 : (0 : Int) ≤ (m : Int) := by omega
          have k3 : (m : Int) < (n : Int) := by omega
          have ka : IntKind.i64.wrap ((m : Int) + 1) = (m : Int) + 1 := by rw [IntKind.wrap_i64]; omega
          clear hY hB hT hLB hLC hbi
          obtain ⟨⟨a0c, a1c⟩, _, al⟩ := HAb.out.below HBi.out
          obtain ⟨⟨x0c, x1c⟩, _, xl⟩ := HXb.out.below HBi.out
          go_wp2_with (go_at_call 100; refine (HTU.out _).mono ?_; rintro e w3 ⟨rfl, hb3⟩)
          have HB3 : Hid (Below wi.heap.size wi w3) := by
            show Below wi.heap.size wi w3
            refine below_after hb3 ?_
            (repeat' (first | (with_reducible exact Below.refl _ _) | (with_reducible refine Below.alloc ?_ ?_ _) | (with_reducible refine Below.setCell ?_ ?_ _) | (with_reducible refine Below.drew ?_) | (with_reducible refine below_drewN ?_ _) | (with_reducible assumption) | (with_reducible refine below_after (by with_reducible assumption) ?_) | go_size))
          have HB4 := Lib.hid (below_after HB3.out HBi.out)
          have HY3 := Lib.hid ((bk2_new wi Y0 Y1 38).below hb3)
          have HC3 : Hid (∀ W, Below w3.heap.size w3 W → W.cell? ⟨w.heap.size, 0, none⟩ = some (.int .i64 a0) ∧ W.cell? ⟨w.heap.size, 1, none⟩ = some (.int .i64 a1) ∧ W.cell? ⟨wo.heap.size, 0, none⟩ = some (.int .i64 X0) ∧ W.cell? ⟨wo.heap.size, 1, none⟩ = some (.int .i64 X1) ∧ W.cell? ⟨wi.heap.size, 0, none⟩ = some (.int .i64 Y0) ∧ W.cell? ⟨wi.heap.size, 1, none⟩ = some (.int .i64 Y1)) := fun W hW => by
            have p := (HAb.out.below HB4.out).below hW
            have q := (HXb.out.below HB4.out).below hW
            have r := HY3.out.below hW
            exact ⟨p.1.1, p.1.2, q.1.1, q.1.2, r.1.1, r.1.2⟩
          clear hb3 a0c a1c al x0c x1c xl y0 y1 glr HTU
          go_cut [40] (fun v wx => v = .bool B ∧ Below w3.heap.size w3 wx)
          case first =>
            by_cases t1 : T < 0
            · have HBq := Lib.hid (H1.out t1)
              have t2 : ¬ T = 0 := by omega
              clear H1 H2 H3
              refine wp_region_held_drew (S := fun W => Below w3.heap.size w3 W) (by kernel_rfl) ?_ (fun hHeld => ?_); focus ((try dsimp only); exact (Below.refl _ _).drew)
              have hHeld : Below w3.heap.size w3 _ := hHeld
              obtain ⟨wD, hwD⟩ : ∃ wD, w3.drew = wD := ⟨_, rfl⟩
              rw [hwD] at hHeld ⊢
              clear hwD
              (refine wpAnyH_take (i := 0) (v := ?_) rfl (by kernel_rfl) (by kernel_rfl) (by kernel_rfl) (fun _ _ _ h => h) (Or.inl ⟨rfl, ?_⟩) (by assumption) ?_; rotate_left; focus (intro W hSw; (try dsimp only at hSw); obtain ⟨i0, i1, i2, i3, i4, i5⟩ := HC3.out _ hSw; go_simp; try (with_reducible rfl))); (try simp only [Act.put, List.getElem_toArray, List.getElem_cons_succ, List.getElem_cons_zero, List.setIfInBounds_toArray, List.set_cons_zero, List.set_cons_succ])
              (refine wpAnyH_take (i := 1) (v := ?_) rfl (by kernel_rfl) (by kernel_rfl) (by kernel_rfl) (fun _ _ _ h => h) (Or.inl ⟨rfl, ?_⟩) (by assumption) ?_; rotate_left; focus (intro W hSw; (try dsimp only at hSw); obtain ⟨i0, i1, i2, i3, i4, i5⟩ := HC3.out _ hSw; go_simp; try (with_reducible rfl))); (try simp only [Act.put, List.getElem_toArray, List.getElem_cons_succ, List.getElem_cons_zero, List.setIfInBounds_toArray, List.set_cons_zero, List.set_cons_succ])
              (refine wpAnyH_take (i := 2) (v := ?_) rfl (by kernel_rfl) (by kernel_rfl) (by kernel_rfl) (fun _ _ _ h => h) (Or.inl ⟨rfl, ?_⟩) (by assumption) ?_; rotate_left; focus (intro W hSw; (try dsimp only at hSw); obtain ⟨i0, i1, i2, i3, i4, i5⟩ := HC3.out _ hSw; go_simp; try (with_reducible rfl))); (try simp only [Act.put, List.getElem_toArray, List.getElem_cons_succ, List.getElem_cons_zero, List.setIfInBounds_toArray, List.set_cons_zero, List.set_cons_succ])
              (refine wpAnyH_take (i := 3) rfl (by kernel_rfl) (by kernel_rfl) (by kernel_rfl) (fun _ _ _ h => h) (Or.inr ⟨rfl, rfl⟩) (by assumption) ?_); (try simp only [Act.put, List.getElem_toArray, List.getElem_cons_succ, List.getElem_cons_zero, List.setIfInBounds_toArray, List.set_cons_zero, List.set_cons_succ])
              (refine wpAnyH_take (i := 4) rfl (by kernel_rfl) (by kernel_rfl) (by kernel_rfl) (fun _ _ _ h => h) (Or.inr ⟨rfl, rfl⟩) (by assumption) ?_); (try simp only [Act.put, List.getElem_toArray, List.getElem_cons_succ, List.getElem_cons_zero, List.setIfInBounds_toArray, List.set_cons_zero, List.set_cons_succ])
              (refine wpAnyH_take (i := 5) rfl (by kernel_rfl) (by kernel_rfl) (by kernel_rfl) (fun _ _ _ h => h) (Or.inr ⟨rfl, rfl⟩) (by assumption) ?_); (try simp only [Act.put, List.getElem_toArray, List.getElem_cons_succ, List.getElem_cons_zero, List.setIfInBounds_toArray, List.set_cons_zero, List.set_cons_succ])
              (refine wpAnyH_take (i := 6) rfl (by kernel_rfl) (by kernel_rfl) (by kernel_rfl) (fun _ _ _ h => h) (Or.inr ⟨rfl, rfl⟩) (by assumption) ?_); (try simp only [Act.put, List.getElem_toArray, List.getElem_cons_succ, List.getElem_cons_zero, List.setIfInBounds_toArray, List.set_cons_zero, List.set_cons_succ])
              (refine wpAnyH_take (i := 7) rfl (by kernel_rfl) (by kernel_rfl) (by kernel_rfl) (fun _ _ _ h => h) (Or.inr ⟨rfl, rfl⟩) (by assumption) ?_); (try simp only [Act.put, List.getElem_toArray, List.getElem_cons_succ, List.getElem_cons_zero, List.setIfInBounds_toArray, List.set_cons_zero, List.set_cons_succ])
              (refine wpAnyH_take (i := 8) rfl (by kernel_rfl) (by kernel_rfl) (by kernel_rfl) (fun _ _ _ h => h) (Or.inr ⟨rfl, rfl⟩) (by assumption) ?_); (try simp only [Act.put, List.getElem_toArray, List.getElem_cons_succ, List.getElem_cons_zero, List.setIfInBounds_toArray, List.set_cons_zero, List.set_cons_succ])
              (refine wpAnyH_take (i := 9) rfl (by kernel_rfl) (by kernel_rfl) (by kernel_rfl) (fun _ _ _ h => h) (Or.inr ⟨rfl, rfl⟩) (by assumption) ?_); (try simp only [Act.put, List.getElem_toArray, List.getElem_cons_succ, List.getElem_cons_zero, List.setIfInBounds_toArray, List.set_cons_zero, List.set_cons_succ])
              (refine wpAnyH_take (i := 10) rfl (by kernel_rfl) (by kernel_rfl) (by kernel_rfl) (fun _ _ _ h => h) (Or.inr ⟨rfl, rfl⟩) (by assumption) ?_); (try simp only [Act.put, List.getElem_toArray, List.getElem_cons_succ, List.getElem_cons_zero, List.setIfInBounds_toArray, List.set_cons_zero, List.set_cons_succ])
              (refine wpAnyH_take (i := 11) rfl (by kernel_rfl) (by kernel_rfl) (by kernel_rfl) (fun _ _ _ h => h) (Or.inr ⟨rfl, rfl⟩) (by assumption) ?_); (try simp only [Act.put, List.getElem_toArray, List.getElem_cons_succ, List.getElem_cons_zero, List.setIfInBounds_toArray, List.set_cons_zero, List.set_cons_succ])
              (refine wpAnyH_take (i := 12) rfl (by kernel_rfl) (by kernel_rfl) (by kernel_rfl) (fun _ _ _ h => h) (Or.inr ⟨rfl, rfl⟩) (by assumption) ?_); (try simp only [Act.put, List.getElem_toArray, List.getElem_cons_succ, List.getElem_cons_zero, List.setIfInBounds_toArray, List.set_cons_zero, List.set_cons_succ])
              (refine wpAnyH_take (i := 13) rfl (by kernel_rfl) (by kernel_rfl) (by kernel_rfl) (fun _ _ _ h => h) (Or.inr ⟨rfl, rfl⟩) (by assumption) ?_); (try simp only [Act.put, List.getElem_toArray, List.getElem_cons_succ, List.getElem_cons_zero, List.setIfInBounds_toArray, List.set_cons_zero, List.set_cons_succ])
              (refine wpAnyH_take (i := 14) (v := ?_) rfl (by kernel_rfl) (by kernel_rfl) (by kernel_rfl) (fun _ _ _ h => h) (Or.inl ⟨rfl, ?_⟩) (by assumption) ?_; rotate_left; focus (intro W hSw; (try dsimp only at hSw); obtain ⟨i0, i1, i2, i3, i4, i5⟩ := HC3.out _ hSw; go_simp; try (with_reducible rfl))); (try simp only [Act.put, List.getElem_toArray, List.getElem_cons_succ, List.getElem_cons_zero, List.setIfInBounds_toArray, List.set_cons_zero, List.set_cons_succ])
              refine wpAnyH_done (by kernel_rfl) ?_ _
              go_wp2_with fail
              go_meet
              exact ⟨by first | rfl | rw [HBq.out], hHeld⟩
            · by_cases t2 : T = 0
              · have HBq := Lib.hid (H3.out t2)
                clear H1 H2 H3
                subst t2
                have t3 : ((0 : Int) == 0) = true := rfl
                refine wp_region_held_drew (S := fun W => Below w3.heap.size w3 W) (by kernel_rfl) ?_ (fun hHeld => ?_); focus ((try dsimp only); exact (Below.refl _ _).drew)
                have hHeld : Below w3.heap.size w3 _ := hHeld
                obtain ⟨wD, hwD⟩ : ∃ wD, w3.drew = wD := ⟨_, rfl⟩
                rw [hwD] at hHeld ⊢
                clear hwD
                (refine wpAnyH_take (i := 0) (v := ?_) rfl (by kernel_rfl) (by kernel_rfl) (by kernel_rfl) (fun _ _ _ h => h) (Or.inl ⟨rfl, ?_⟩) (by assumption) ?_; rotate_left; focus (intro W hSw; (try dsimp only at hSw); obtain ⟨i0, i1, i2, i3, i4, i5⟩ := HC3.out _ hSw; go_simp; try (with_reducible rfl))); (try simp only [Act.put, List.getElem_toArray, List.getElem_cons_succ, List.getElem_cons_zero, List.setIfInBounds_toArray, List.set_cons_zero, List.set_cons_succ])
                (refine wpAnyH_take (i := 1) (v := ?_) rfl (by kernel_rfl) (by kernel_rfl) (by kernel_rfl) (fun _ _ _ h => h) (Or.inl ⟨rfl, ?_⟩) (by assumption) ?_; rotate_left; focus (intro W hSw; (try dsimp only at hSw); obtain ⟨i0, i1, i2, i3, i4, i5⟩ := HC3.out _ hSw; go_simp; try (with_reducible rfl))); (try simp only [Act.put, List.getElem_toArray, List.getElem_cons_succ, List.getElem_cons_zero, List.setIfInBounds_toArray, List.set_cons_zero, List.set_cons_succ])
                (refine wpAnyH_take (i := 2) (v := ?_) rfl (by kernel_rfl) (by kernel_rfl) (by kernel_rfl) (fun _ _ _ h => h) (Or.inl ⟨rfl, ?_⟩) (by assumption) ?_; rotate_left; focus (intro W hSw; (try dsimp only at hSw); obtain ⟨i0, i1, i2, i3, i4, i5⟩ := HC3.out _ hSw; go_simp; try (with_reducible rfl))); (try simp only [Act.put, List.getElem_toArray, List.getElem_cons_succ, List.getElem_cons_zero, List.setIfInBounds_toArray, List.set_cons_zero, List.set_cons_succ])
                (refine wpAnyH_take (i := 3) (v := ?_) rfl (by kernel_rfl) (by kernel_rfl) (by kernel_rfl) (fun _ _ _ h => h) (Or.inl ⟨rfl, ?_⟩) (by assumption) ?_; rotate_left; focus (intro W hSw; (try dsimp only at hSw); obtain ⟨i0, i1, i2, i3, i4, i5⟩ := HC3.out _ hSw; go_simp; try (with_reducible rfl))); (try simp only [Act.put, List.getElem_toArray, List.getElem_cons_succ, List.getElem_cons_zero, List.setIfInBounds_toArray, List.set_cons_zero, List.set_cons_succ])
                (refine wpAnyH_take (i := 4) (v := ?_) rfl (by kernel_rfl) (by kernel_rfl) (by kernel_rfl) (fun _ _ _ h => h) (Or.inl ⟨rfl, ?_⟩) (by assumption) ?_; rotate_left; focus (intro W hSw; (try dsimp only at hSw); obtain ⟨i0, i1, i2, i3, i4, i5⟩ := HC3.out _ hSw; go_simp; try (with_reducible rfl))); (try simp only [Act.put, List.getElem_toArray, List.getElem_cons_succ, List.getElem_cons_zero, List.setIfInBounds_toArray, List.set_cons_zero, List.set_cons_succ])
                (refine wpAnyH_take (i := 5) (v := ?_) rfl (by kernel_rfl) (by kernel_rfl) (by kernel_rfl) (fun _ _ _ h => h) (Or.inl ⟨rfl, ?_⟩) (by assumption) ?_; rotate_left; focus (intro W hSw; (try dsimp only at hSw); obtain ⟨i0, i1, i2, i3, i4, i5⟩ := HC3.out _ hSw; go_simp; try (with_reducible rfl))); (try simp only [Act.put, List.getElem_toArray, List.getElem_cons_succ, List.getElem_cons_zero, List.setIfInBounds_toArray, List.set_cons_zero, List.set_cons_succ])
                (refine wpAnyH_take (i := 6) (v := ?_) rfl (by kernel_rfl) (by kernel_rfl) (by kernel_rfl) (fun _ _ _ h => h) (Or.inl ⟨rfl, ?_⟩) (by assumption) ?_; rotate_left; focus (intro W hSw; (try dsimp only at hSw); obtain ⟨i0, i1, i2, i3, i4, i5⟩ := HC3.out _ hSw; go_simp; try (with_reducible rfl))); (try simp only [Act.put, List.getElem_toArray, List.getElem_cons_succ, List.getElem_cons_zero, List.setIfInBounds_toArray, List.set_cons_zero, List.set_cons_succ])
                (refine wpAnyH_take (i := 7) (v := ?_) rfl (by kernel_rfl) (by kernel_rfl) (by kernel_rfl) (fun _ _ _ h => h) (Or.inl ⟨rfl, ?_⟩) (by assumption) ?_; rotate_left; focus (intro W hSw; (try dsimp only at hSw); obtain ⟨i0, i1, i2, i3, i4, i5⟩ := HC3.out _ hSw; go_simp; try (with_reducible rfl))); (try simp only [Act.put, List.getElem_toArray, List.getElem_cons_succ, List.getElem_cons_zero, List.setIfInBounds_toArray, List.set_cons_zero, List.set_cons_succ])
                (refine wpAnyH_take (i := 9) (v := ?_) rfl (by kernel_rfl) (by kernel_rfl) (by kernel_rfl) (fun _ _ _ h => h) (Or.inl ⟨rfl, ?_⟩) (by assumption) ?_; rotate_left; focus (intro W hSw; (try dsimp only at hSw); obtain ⟨i0, i1, i2, i3, i4, i5⟩ := HC3.out _ hSw; go_simp; try (with_reducible rfl))); (try simp only [Act.put, List.getElem_toArray, List.getElem_cons_succ, List.getElem_cons_zero, List.setIfInBounds_toArray, List.set_cons_zero, List.set_cons_succ])
                (refine wpAnyH_take (i := 10) (v := ?_) rfl (by kernel_rfl) (by kernel_rfl) (by kernel_rfl) (fun _ _ _ h => h) (Or.inl ⟨rfl, ?_⟩) (by assumption) ?_; rotate_left; focus (intro W hSw; (try dsimp only at hSw); obtain ⟨i0, i1, i2, i3, i4, i5⟩ := HC3.out _ hSw; go_simp; try (with_reducible rfl))); (try simp only [Act.put, List.getElem_toArray, List.getElem_cons_succ, List.getElem_cons_zero, List.setIfInBounds_toArray, List.set_cons_zero, List.set_cons_succ])
                refine wpAnyH_ready (rs := [8]) (by kernel_rfl) (by simp) ?_; refine AllReadyH.cons rfl (fun K hK => ?_) AllReadyH.nil
                go_simp; (go_at_call 110; refine (HLC.out _).mono ?_; rintro en yw0 ⟨rfl, hb2⟩); refine hK.out _ _ (below_after hb2 hHeld) (fun hHeld2 => ?_); clear hb2; (clear hHeld; rename _ => hHeld; clear hK K; have hHeld : Below w3.heap.size w3 _ := hHeld); (try simp only [Act.put, List.getElem_toArray, List.getElem_cons_succ, List.getElem_cons_zero, List.setIfInBounds_toArray, List.set_cons_zero, List.set_cons_succ])
                refine wpAnyH_ready (rs := [11]) (by kernel_rfl) (by simp) ?_; refine AllReadyH.cons rfl (fun K hK => ?_) AllReadyH.nil
                go_simp; (go_at_call 110; refine (HLB.out _).mono ?_; rintro en yw1 ⟨rfl, hb2⟩); refine hK.out _ _ (below_after hb2 hHeld) (fun hHeld2 => ?_); clear hb2; (clear hHeld; rename _ => hHeld; clear hK K; have hHeld : Below w3.heap.size w3 _ := hHeld); (try simp only [Act.put, List.getElem_toArray, List.getElem_cons_succ, List.getElem_cons_zero, List.setIfInBounds_toArray, List.set_cons_zero, List.set_cons_succ])
                (refine wpAnyH_take (i := 12) (v := ?_) rfl (by kernel_rfl) (by kernel_rfl) (by kernel_rfl) (fun _ _ _ h => h) (Or.inl ⟨rfl, ?_⟩) (by assumption) ?_; rotate_left; focus (intro W hSw; (try dsimp only at hSw); obtain ⟨i0, i1, i2, i3, i4, i5⟩ := HC3.out _ hSw; go_simp; try (with_reducible rfl))); (try simp only [Act.put, List.getElem_toArray, List.getElem_cons_succ, List.getElem_cons_zero, List.setIfInBounds_toArray, List.set_cons_zero, List.set_cons_succ])
                (refine wpAnyH_take (i := 13) (v := ?_) rfl (by kernel_rfl) (by kernel_rfl) (by kernel_rfl) (fun _ _ _ h => h) (Or.inl ⟨rfl, ?_⟩) (by assumption) ?_; rotate_left; focus (intro W hSw; (try dsimp only at hSw); obtain ⟨i0, i1, i2, i3, i4, i5⟩ := HC3.out _ hSw; go_simp; try (with_reducible rfl))); (try simp only [Act.put, List.getElem_toArray, List.getElem_cons_succ, List.getElem_cons_zero, List.setIfInBounds_toArray, List.set_cons_zero, List.set_cons_succ])
                (refine wpAnyH_take (i := 14) (v := ?_) rfl (by kernel_rfl) (by kernel_rfl) (by kernel_rfl) (fun _ _ _ h => h) (Or.inl ⟨rfl, ?_⟩) (by assumption) ?_; rotate_left; focus (intro W hSw; (try dsimp only at hSw); obtain ⟨i0, i1, i2, i3, i4, i5⟩ := HC3.out _ hSw; go_simp; try (with_reducible rfl))); (try simp only [Act.put, List.getElem_toArray, List.getElem_cons_succ, List.getElem_cons_zero, List.setIfInBounds_toArray, List.set_cons_zero, List.set_cons_succ])
                refine wpAnyH_done (by kernel_rfl) ?_ _
                go_wp2_with fail
                go_meet
                exact ⟨by first | rfl | rw [HBq.out], hHeld⟩
              · have HBq := Lib.hid (H2.out (by omega) t2)
                clear H1 H2 H3
                have t3 : (T == 0) = false := by simpa using t2
                refine wp_region_held_drew (S := fun W => Below w3.heap.size w3 W) (by kernel_rfl) ?_ (fun hHeld => ?_); focus ((try dsimp only); exact (Below.refl _ _).drew)
                have hHeld : Below w3.heap.size w3 _ := hHeld
                obtain ⟨wD, hwD⟩ : ∃ wD, w3.drew = wD := ⟨_, rfl⟩
                rw [hwD] at hHeld ⊢
                clear hwD
                (refine wpAnyH_take (i := 0) (v := ?_) rfl (by kernel_rfl) (by kernel_rfl) (by kernel_rfl) (fun _ _ _ h => h) (Or.inl ⟨rfl, ?_⟩) (by assumption) ?_; rotate_left; focus (intro W hSw; (try dsimp only at hSw); obtain ⟨i0, i1, i2, i3, i4, i5⟩ := HC3.out _ hSw; go_simp; try (with_reducible rfl))); (try simp only [Act.put, List.getElem_toArray, List.getElem_cons_succ, List.getElem_cons_zero, List.setIfInBounds_toArray, List.set_cons_zero, List.set_cons_succ])
                (refine wpAnyH_take (i := 1) (v := ?_) rfl (by kernel_rfl) (by kernel_rfl) (by kernel_rfl) (fun _ _ _ h => h) (Or.inl ⟨rfl, ?_⟩) (by assumption) ?_; rotate_left; focus (intro W hSw; (try dsimp only at hSw); obtain ⟨i0, i1, i2, i3, i4, i5⟩ := HC3.out _ hSw; go_simp; try (with_reducible rfl))); (try simp only [Act.put, List.getElem_toArray, List.getElem_cons_succ, List.getElem_cons_zero, List.setIfInBounds_toArray, List.set_cons_zero, List.set_cons_succ])
                (refine wpAnyH_take (i := 2) (v := ?_) rfl (by kernel_rfl) (by kernel_rfl) (by kernel_rfl) (fun _ _ _ h => h) (Or.inl ⟨rfl, ?_⟩) (by assumption) ?_; rotate_left; focus (intro W hSw; (try dsimp only at hSw); obtain ⟨i0, i1, i2, i3, i4, i5⟩ := HC3.out _ hSw; go_simp; try (with_reducible rfl))); (try simp only [Act.put, List.getElem_toArray, List.getElem_cons_succ, List.getElem_cons_zero, List.setIfInBounds_toArray, List.set_cons_zero, List.set_cons_succ])
                (refine wpAnyH_take (i := 3) (v := ?_) rfl (by kernel_rfl) (by kernel_rfl) (by kernel_rfl) (fun _ _ _ h => h) (Or.inl ⟨rfl, ?_⟩) (by assumption) ?_; rotate_left; focus (intro W hSw; (try dsimp only at hSw); obtain ⟨i0, i1, i2, i3, i4, i5⟩ := HC3.out _ hSw; go_simp; try (with_reducible rfl))); (try simp only [Act.put, List.getElem_toArray, List.getElem_cons_succ, List.getElem_cons_zero, List.setIfInBounds_toArray, List.set_cons_zero, List.set_cons_succ])
                (refine wpAnyH_take (i := 4) (v := ?_) rfl (by kernel_rfl) (by kernel_rfl) (by kernel_rfl) (fun _ _ _ h => h) (Or.inl ⟨rfl, ?_⟩) (by assumption) ?_; rotate_left; focus (intro W hSw; (try dsimp only at hSw); obtain ⟨i0, i1, i2, i3, i4, i5⟩ := HC3.out _ hSw; go_simp; try (with_reducible rfl))); (try simp only [Act.put, List.getElem_toArray, List.getElem_cons_succ, List.getElem_cons_zero, List.setIfInBounds_toArray, List.set_cons_zero, List.set_cons_succ])
                (refine wpAnyH_take (i := 5) (v := ?_) rfl (by kernel_rfl) (by kernel_rfl) (by kernel_rfl) (fun _ _ _ h => h) (Or.inl ⟨rfl, ?_⟩) (by assumption) ?_; rotate_left; focus (intro W hSw; (try dsimp only at hSw); obtain ⟨i0, i1, i2, i3, i4, i5⟩ := HC3.out _ hSw; go_simp; try (with_reducible rfl))); (try simp only [Act.put, List.getElem_toArray, List.getElem_cons_succ, List.getElem_cons_zero, List.setIfInBounds_toArray, List.set_cons_zero, List.set_cons_succ])
                (refine wpAnyH_take (i := 6) rfl (by kernel_rfl) (by kernel_rfl) (by kernel_rfl) (fun _ _ _ h => h) (Or.inr ⟨rfl, rfl⟩) (by assumption) ?_); (try simp only [Act.put, List.getElem_toArray, List.getElem_cons_succ, List.getElem_cons_zero, List.setIfInBounds_toArray, List.set_cons_zero, List.set_cons_succ])
                (refine wpAnyH_take (i := 7) rfl (by kernel_rfl) (by kernel_rfl) (by kernel_rfl) (fun _ _ _ h => h) (Or.inr ⟨rfl, rfl⟩) (by assumption) ?_); (try simp only [Act.put, List.getElem_toArray, List.getElem_cons_succ, List.getElem_cons_zero, List.setIfInBounds_toArray, List.set_cons_zero, List.set_cons_succ])
                (refine wpAnyH_take (i := 8) rfl (by kernel_rfl) (by kernel_rfl) (by kernel_rfl) (fun _ _ _ h => h) (Or.inr ⟨rfl, rfl⟩) (by assumption) ?_); (try simp only [Act.put, List.getElem_toArray, List.getElem_cons_succ, List.getElem_cons_zero, List.setIfInBounds_toArray, List.set_cons_zero, List.set_cons_succ])
                (refine wpAnyH_take (i := 9) rfl (by kernel_rfl) (by kernel_rfl) (by kernel_rfl) (fun _ _ _ h => h) (Or.inr ⟨rfl, rfl⟩) (by assumption) ?_); (try simp only [Act.put, List.getElem_toArray, List.getElem_cons_succ, List.getElem_cons_zero, List.setIfInBounds_toArray, List.set_cons_zero, List.set_cons_succ])
                (refine wpAnyH_take (i := 10) rfl (by kernel_rfl) (by kernel_rfl) (by kernel_rfl) (fun _ _ _ h => h) (Or.inr ⟨rfl, rfl⟩) (by assumption) ?_); (try simp only [Act.put, List.getElem_toArray, List.getElem_cons_succ, List.getElem_cons_zero, List.setIfInBounds_toArray, List.set_cons_zero, List.set_cons_succ])
                (refine wpAnyH_take (i := 11) rfl (by kernel_rfl) (by kernel_rfl) (by kernel_rfl) (fun _ _ _ h => h) (Or.inr ⟨rfl, rfl⟩) (by assumption) ?_); (try simp only [Act.put, List.getElem_toArray, List.getElem_cons_succ, List.getElem_cons_zero, List.setIfInBounds_toArray, List.set_cons_zero, List.set_cons_succ])
                (refine wpAnyH_take (i := 12) rfl (by kernel_rfl) (by kernel_rfl) (by kernel_rfl) (fun _ _ _ h => h) (Or.inr ⟨rfl, rfl⟩) (by assumption) ?_); (try simp only [Act.put, List.getElem_toArray, List.getElem_cons_succ, List.getElem_cons_zero, List.setIfInBounds_toArray, List.set_cons_zero, List.set_cons_succ])
                (refine wpAnyH_take (i := 13) (v := ?_) rfl (by kernel_rfl) (by kernel_rfl) (by kernel_rfl) (fun _ _ _ h => h) (Or.inl ⟨rfl, ?_⟩) (by assumption) ?_; rotate_left; focus (intro W hSw; (try dsimp only at hSw); obtain ⟨i0, i1, i2, i3, i4, i5⟩ := HC3.out _ hSw; go_simp; try (with_reducible rfl))); (try simp only [Act.put, List.getElem_toArray, List.getElem_cons_succ, List.getElem_cons_zero, List.setIfInBounds_toArray, List.set_cons_zero, List.set_cons_succ])
                (refine wpAnyH_take (i := 14) (v := ?_) rfl (by kernel_rfl) (by kernel_rfl) (by kernel_rfl) (fun _ _ _ h => h) (Or.inl ⟨rfl, ?_⟩) (by assumption) ?_; rotate_left; focus (intro W hSw; (try dsimp only at hSw); obtain ⟨i0, i1, i2, i3, i4, i5⟩ := HC3.out _ hSw; go_simp; try (with_reducible rfl))); (try simp only [Act.put, List.getElem_toArray, List.getElem_cons_succ, List.getElem_cons_zero, List.setIfInBounds_toArray, List.set_cons_zero, List.set_cons_succ])
                refine wpAnyH_done (by kernel_rfl) ?_ _
                go_wp2_with fail
                go_meet
                exact ⟨by first | rfl | rw [HBq.out], hHeld⟩
          case rest =>
            obtain ⟨rfl, hBx⟩ := hcut
            obtain ⟨w4, rfl⟩ : ∃ w2, w2 = wc := ⟨_, rfl⟩
            have HB5 := Lib.hid (below_after hBx HB4.out)
            have HWx := Lib.hid (below_after HB5.out HWb.out)
            have hsx := HWx.out.size
            clear hBx HC3 HY3 HB3 HB4
            cases B
            · go_wp2_with fail
              go_roundw
              case rel => exact ⟨m + 1, by omega, by go_num, HOKm.out rfl, HB5.out⟩
              case measure => simp [intOf]; omega
            · go_wp2_with fail
              go_roundw
              case rel => exact ⟨j + 1, by omega, by go_num, HOBm.out rfl, HAb.out.below HB5.out, HRb.out.below HB5.out, HWx.out⟩
              case measure => simp [intOf]; omega
        · have hme : m = n := by omega
          subst hme
          have HE := Lib.hid (HF.out (HOA.out HOK.out))
          have hE := HE.out
          obtain ⟨rfl, rfl⟩ := Prod.mk.inj hE
          obtain ⟨⟨x0c, x1c⟩, _, xl⟩ := HXb.out.below HBi.out
          obtain ⟨⟨r0c, r1c⟩, ⟨f0, f1⟩, rl⟩ := HRb.out.below HBi.out
          have hWi := HWi.out
          have k3 : ¬ (m : Int) < (m : Int) := by omega
          clear hE hbi
          go_wp2_with fail
          refine bodyPost_ret (v := .agg #[.int .i64 V0, .int .i64 V1]) (by simp (maxDischargeDepth := 8) [results, Try.results104, go_sem, *]) rfl ?_
          exact ⟨rfl, by (repeat' (first | (with_reducible exact Below.refl _ _) | (with_reducible refine Below.alloc ?_ ?_ _) | (with_reducible refine Below.setCell ?_ ?_ _) | (with_reducible refine Below.drew ?_) | (with_reducible refine below_drewN ?_ _) | (with_reducible assumption) | (with_reducible refine below_after (by with_reducible assumption) ?_) | go_size))⟩
    · have hje : j = n := by omega
      subst hje
      have hE := HFN.out HNO.out
      obtain ⟨rfl, rfl⟩ := Prod.mk.inj hE
      obtain ⟨⟨a0c, a1c⟩, _, al⟩ := hA
      obtain ⟨⟨r0c, r1c⟩, ⟨f0, f1⟩, rl⟩ := hR
      have k3 : ¬ (j : Int) < (j : Int) := by omega
      clear hE
      go_wp2_with fail
      refine bodyPost_ret (v := .agg #[.int .i64 V0, .int .i64 V1]) (by simp (maxDischargeDepth := 8) [results, Try.results104, go_sem, *]) rfl ?_
      exact ⟨rfl, by (repeat' (first | (with_reducible exact Below.refl _ _) | (with_reducible refine Below.alloc ?_ ?_ _) | (with_reducible refine Below.setCell ?_ ?_ _) | (with_reducible refine Below.drew ?_) | (with_reducible refine below_drewN ?_ _) | (with_reducible assumption) | (with_reducible refine below_after (by with_reducible assumption) ?_) | go_size))⟩
end Go.Proofs.Ytkfoelkkllpmdaa
