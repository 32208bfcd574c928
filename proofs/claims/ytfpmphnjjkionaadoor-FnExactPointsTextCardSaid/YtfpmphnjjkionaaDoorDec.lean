/-
  The decimal text of a number in the model, and the text of a point there (own work).
-/
import Derived.Test.YtfpmphnjjkionaaDoorPts
import Derived.Lib.ItoaNum
import Derived.Lib.ItoaMem
import Derived.Laws.IdiomStrings
namespace Go.Proofs.YtfpmphnjjkionaaDoor
open Go.ChangeShapes Go.WideShapes Go.ChangeAt Go.RowKit
set_option linter.unusedVariables false
set_option linter.unusedSimpArgs false
set_option maxRecDepth 100000

/-- The text of a digit. -/
theorem digit_at (u : Nat) (h : u < 10) (g : Nat) (W : World) (hc : W.cell? ⟨g, 0, none⟩ = some (.int .u8 (48 + (u : Int)))) : (convert 69 9 (.slice (some ⟨g, 0, none⟩) 1 1)).run Tryd.prog W = .ok (.string ⟨#[UInt8.ofNat (48 + u)]⟩) W := by
  have := run_convert_bytes_back (P := Tryd.prog) W 69 9 5 ⟨g, 0, none⟩ 1 [UInt8.ofNat (48 + u)] Tryd.underlying69 Tryd.underlying5 Tryd.underlying9 (by
    intro j hj
    have hj0 : j = 0 := by simpa using hj
    subst hj0
    have e : (Addr.add ⟨g, 0, none⟩ 0) = ⟨g, 0, none⟩ := by unfold Addr.add; split <;> simp_all
    have e2 : (UInt8.ofNat (48 + u)).toNat = 48 + u := by rw [UInt8.toNat_ofNat']; omega
    rw [e, hc]
    show some (Value.int .u8 (48 + (u : Int))) = some (.int .u8 (((UInt8.ofNat (48 + u)).toNat : Nat) : Int))
    rw [e2]; simp)
  exact this
theorem digit_text (u : Nat) (h : u < 10) (w : World) : (convert 69 9 (.slice (some ⟨w.heap.size, 0, none⟩) 1 1)).run Tryd.prog (w.alloc (.cells #[.int .u8 (48 + (u : Int))] 5)) = .ok (.string ⟨#[UInt8.ofNat (48 + u)]⟩) (w.alloc (.cells #[.int .u8 (48 + (u : Int))] 5)) :=
  digit_at u h _ _ (by go_cell)
theorem dec_len : ∀ (N u : Nat), u < N → (Lib.decDigits u).length ≤ u + 1 := by
  intro N
  induction N with
  | zero => intro u h; omega
  | succ N ih =>
    intro u h
    rw [Lib.decDigits]
    split
    · simp
    · have := ih (u / 10) (by omega)
      simp
      omega
theorem text_cat (a b : List UInt8) : (⟨a.toArray⟩ : ByteArray) ++ (⟨b.toArray⟩ : ByteArray) = ⟨(a ++ b).toArray⟩ := by
  rw [ByteArray.ext_iff]
  simp
set_option maxHeartbeats 1600000 in
theorem l01Dec_nat : ∀ (N u : Nat), u < N → u ≤ 10000000 → ∀ w, Calls Tryd.prog 35 #[.int .i64 (u : Int)] w fun e w' => e = .returned (.string ⟨(Lib.decDigits u).toArray⟩) ∧ Below w.heap.size w w' := by
  intro N
  induction N with
  | zero => intro u h; omega
  | succ N ih =>
    intro u hu hb w
    have i0 : ¬ (u : Int) < 0 := by omega
    have i1 : (0 : Int) ≤ (u : Int) := by omega
    by_cases h10 : u < 10
    · have i2 : (u : Int) < 10 := by omega
      have hd := digit_text u h10
      have hw : IntKind.u8.wrap (48 + (u : Int)) = 48 + (u : Int) := by rw [IntKind.wrap_u8]; omega
      rw [Lib.decDigits_one h10]
      clear ih
      go_enter Tryd.func35, Tryd.ntmps35
      go_wp2
      go_ret
      exact ⟨rfl, by (repeat' (first | (with_reducible exact Below.refl _ _) | (with_reducible refine Below.alloc ?_ ?_ _) | (with_reducible refine Below.setCell ?_ ?_ _) | (with_reducible refine Below.drew ?_) | (with_reducible refine below_drewN ?_ _) | (with_reducible assumption) | (with_reducible refine below_after (by with_reducible assumption) ?_) | go_size))⟩
    · have i2 : ¬ (u : Int) < 10 := by omega
      have i3 : (10 : Int) ≤ (u : Int) := by omega
      obtain ⟨v, hv⟩ : ∃ v, v = u / 10 := ⟨_, rfl⟩
      obtain ⟨r, hr⟩ : ∃ r, r = u % 10 := ⟨_, rfl⟩
      have HI := Lib.hid (ih v (by omega) (by omega))
      have q1 : (u : Int).tdiv 10 = (v : Int) := by rw [Int.tdiv_eq_ediv_of_nonneg (by omega)]; omega
      have q2 : (u : Int).tmod 10 = (r : Int) := by rw [Int.tmod_eq_emod_of_nonneg (by omega)]; omega
      have hw : IntKind.u8.wrap (48 + (r : Int)) = 48 + (r : Int) := by rw [IntKind.wrap_u8]; omega
      have q3 : (r : Int) < 10 := by omega
      have q5 : IntKind.i64.wrap (v : Int) = (v : Int) := by rw [IntKind.wrap_i64]; omega
      have q6 : IntKind.i64.wrap (48 + (r : Int)) = 48 + (r : Int) := by rw [IntKind.wrap_i64]; omega
      have q7 : ¬ 9223372036854775807 < (Lib.decDigits v).length + 1 := by have := dec_len _ v (Nat.lt_succ_self v); omega
      have q4 : (0 : Int) ≤ (r : Int) := by omega
      obtain ⟨dg, hdg⟩ : ∃ d, UInt8.ofNat (48 + r) = d := ⟨_, rfl⟩
      have HDG := Lib.hid hdg
      have HT : Hid ((⟨(Lib.decDigits v).toArray⟩ : ByteArray) ++ (⟨#[dg]⟩ : ByteArray) = ⟨(Lib.decDigits u).toArray⟩) := by
        show _ = _
        rw [show (#[dg] : Array UInt8) = [dg].toArray from rfl, text_cat]
        conv => rhs; rw [Lib.decDigits]
        rw [dif_neg h10, ← hdg, hv, hr]
      clear ih hv hr h10 hu hdg
      go_enter Tryd.func35, Tryd.ntmps35
      go_wp2
      refine wp_region_held_drew (S := fun W' => Below w.heap.size w W') (by kernel_rfl) ?_ (fun hHeld => ?_); focus ((try dsimp only); (repeat' (first | (with_reducible exact Below.refl _ _) | (with_reducible refine Below.alloc ?_ ?_ _) | (with_reducible refine Below.setCell ?_ ?_ _) | (with_reducible refine Below.drew ?_) | (with_reducible refine below_drewN ?_ _) | (with_reducible assumption) | (with_reducible refine below_after (by with_reducible assumption) ?_) | go_size)))
      have hHeld : Below w.heap.size w _ := hHeld
      obtain ⟨wD, hwD⟩ : ∃ wD, w.drew = wD := ⟨_, rfl⟩
      rw [hwD] at hHeld ⊢; clear hwD
      (refine wpAnyH_take (i := 0) (v := ?_) rfl (by kernel_rfl) (by kernel_rfl) (by kernel_rfl) (fun _ _ _ h => h) (Or.inl ⟨rfl, ?_⟩) (by assumption) ?_; rotate_left; focus (intro w hSw; (try dsimp only at hSw); go_simp; try (with_reducible rfl))); (try simp only [Act.put, List.getElem_toArray, List.getElem_cons_succ, List.getElem_cons_zero, List.setIfInBounds_toArray, List.set_cons_zero, List.set_cons_succ])
      (refine wpAnyH_take (i := 1) (v := ?_) rfl (by kernel_rfl) (by kernel_rfl) (by kernel_rfl) (fun _ _ _ h => h) (Or.inl ⟨rfl, ?_⟩) (by assumption) ?_; rotate_left; focus (intro w hSw; (try dsimp only at hSw); go_simp; try (with_reducible rfl))); (try simp only [Act.put, List.getElem_toArray, List.getElem_cons_succ, List.getElem_cons_zero, List.setIfInBounds_toArray, List.set_cons_zero, List.set_cons_succ])
      (refine wpAnyH_take (i := 3) (v := ?_) rfl (by kernel_rfl) (by kernel_rfl) (by kernel_rfl) (fun _ _ _ h => h) (Or.inl ⟨rfl, ?_⟩) (by assumption) ?_; rotate_left; focus (intro w hSw; (try dsimp only at hSw); go_simp; try (with_reducible rfl))); (try simp only [Act.put, List.getElem_toArray, List.getElem_cons_succ, List.getElem_cons_zero, List.setIfInBounds_toArray, List.set_cons_zero, List.set_cons_succ])
      (refine wpAnyH_take (i := 4) (v := ?_) rfl (by kernel_rfl) (by kernel_rfl) (by kernel_rfl) (fun _ _ _ h => h) (Or.inl ⟨rfl, ?_⟩) (by assumption) ?_; rotate_left; focus (intro w hSw; (try dsimp only at hSw); go_simp; try (with_reducible rfl))); (try simp only [Act.put, List.getElem_toArray, List.getElem_cons_succ, List.getElem_cons_zero, List.setIfInBounds_toArray, List.set_cons_zero, List.set_cons_succ])
      (refine wpAnyH_take (i := 5) (v := ?_) rfl (by kernel_rfl) (by kernel_rfl) (by kernel_rfl) (fun _ _ _ h => h) (Or.inl ⟨rfl, ?_⟩) (by assumption) ?_; rotate_left; focus (intro w hSw; (try dsimp only at hSw); go_simp; try (with_reducible rfl))); (try simp only [Act.put, List.getElem_toArray, List.getElem_cons_succ, List.getElem_cons_zero, List.setIfInBounds_toArray, List.set_cons_zero, List.set_cons_succ])
      (refine wpAnyH_take (i := 6) (v := ?_) rfl (by kernel_rfl) (by kernel_rfl) (by kernel_rfl) (fun _ _ _ h => h) (Or.inl ⟨rfl, ?_⟩) (by assumption) ?_; rotate_left; focus (intro w hSw; (try dsimp only at hSw); go_simp; try (with_reducible rfl))); (try simp only [Act.put, List.getElem_toArray, List.getElem_cons_succ, List.getElem_cons_zero, List.setIfInBounds_toArray, List.set_cons_zero, List.set_cons_succ])
      refine wpAnyH_ready (rs := [2, 7]) (by kernel_rfl) (by simp) ?_; refine AllReadyH.cons rfl (fun K hK => ?_) (AllReadyH.cons rfl (fun K hK => ?_) (AllReadyH.nil))
      · go_simp; (go_at_call 35; refine (HI.out _).mono ?_; rintro en w5 ⟨rfl, hb5⟩)
        skip
        refine hK.out _ _ (below_after hb5 hHeld) (fun hHeld2 => ?_); clear hb5; (clear hHeld; rename _ => hHeld; clear hK K; have hHeld : Below w.heap.size w _ := hHeld); (try simp only [Act.put, List.getElem_toArray, List.getElem_cons_succ, List.getElem_cons_zero, List.setIfInBounds_toArray, List.set_cons_zero, List.set_cons_succ])
        refine wpAnyH_ready (rs := [7]) (by kernel_rfl) (by simp) ?_; refine AllReadyH.cons rfl (fun K hK => ?_) (AllReadyH.nil)
        go_simp
        have c6 : (w5.alloc (.cells #[.int .u8 (48 + (r : Int))] 5)).cell? ⟨w5.heap.size, 0, none⟩ = some (.int .u8 (48 + (r : Int))) := by go_cell
        refine hK.out _ _ (Below.alloc hHeld (Below.size hHeld) _) (fun hHeld2 => ?_); (clear hHeld; rename _ => hHeld; clear hK K; have hHeld : Below w.heap.size w _ := hHeld); (try simp only [Act.put, List.getElem_toArray, List.getElem_cons_succ, List.getElem_cons_zero, List.setIfInBounds_toArray, List.set_cons_zero, List.set_cons_succ])
        obtain ⟨w6, hwx⟩ : ∃ wx, w5.alloc (.cells #[.int .u8 (48 + (r : Int))] 5) = wx := ⟨_, rfl⟩
        rw [hwx] at c6 hHeld ⊢; clear hwx
        refine wpAnyH_ready (rs := [8]) (by kernel_rfl) (by simp) ?_; refine AllReadyH.cons rfl (fun K hK => ?_) (AllReadyH.nil)
        have h8 := digit_at r (by omega) _ w6 c6
        rw [HDG.out] at h8
        go_simp
        refine hK.out _ _ hHeld (fun hHeld2 => ?_); (clear hHeld; rename _ => hHeld; clear hK K; have hHeld : Below w.heap.size w _ := hHeld); (try simp only [Act.put, List.getElem_toArray, List.getElem_cons_succ, List.getElem_cons_zero, List.setIfInBounds_toArray, List.set_cons_zero, List.set_cons_succ])
        clear h8
        (refine wpAnyH_take (i := 9) (v := ?_) rfl (by kernel_rfl) (by kernel_rfl) (by kernel_rfl) (fun _ _ _ h => h) (Or.inl ⟨rfl, ?_⟩) (by assumption) ?_; rotate_left; focus (intro w hSw; (try dsimp only at hSw); go_simp; try (with_reducible rfl))); (try simp only [Act.put, List.getElem_toArray, List.getElem_cons_succ, List.getElem_cons_zero, List.setIfInBounds_toArray, List.set_cons_zero, List.set_cons_succ])
        (refine wpAnyH_take (i := 10) (v := ?_) rfl (by kernel_rfl) (by kernel_rfl) (by kernel_rfl) (fun _ _ _ h => h) (Or.inl ⟨rfl, ?_⟩) (by assumption) ?_; rotate_left; focus (intro w hSw; (try dsimp only at hSw); go_simp; try (with_reducible rfl))); (try simp only [Act.put, List.getElem_toArray, List.getElem_cons_succ, List.getElem_cons_zero, List.setIfInBounds_toArray, List.set_cons_zero, List.set_cons_succ])
        refine wpAnyH_done (by kernel_rfl) ?_ _
        go_wp2
        go_ret
        exact ⟨by rw [← HT.out]; rfl, hHeld⟩
      · go_simp
        have c6 : (wD.alloc (.cells #[.int .u8 (48 + (r : Int))] 5)).cell? ⟨wD.heap.size, 0, none⟩ = some (.int .u8 (48 + (r : Int))) := by go_cell
        refine hK.out _ _ (Below.alloc hHeld (Below.size hHeld) _) (fun hHeld2 => ?_); (clear hHeld; rename _ => hHeld; clear hK K; have hHeld : Below w.heap.size w _ := hHeld); (try simp only [Act.put, List.getElem_toArray, List.getElem_cons_succ, List.getElem_cons_zero, List.setIfInBounds_toArray, List.set_cons_zero, List.set_cons_succ])
        obtain ⟨w6, hwx⟩ : ∃ wx, wD.alloc (.cells #[.int .u8 (48 + (r : Int))] 5) = wx := ⟨_, rfl⟩
        rw [hwx] at c6 hHeld ⊢; clear hwx
        refine wpAnyH_ready (rs := [2, 8]) (by kernel_rfl) (by simp) ?_; refine AllReadyH.cons rfl (fun K hK => ?_) (AllReadyH.cons rfl (fun K hK => ?_) (AllReadyH.nil))
        · go_simp; (go_at_call 35; refine (HI.out _).mono ?_; rintro en w7 ⟨rfl, hb5⟩)
          have c6 : w7.cell? ⟨wD.heap.size, 0, none⟩ = some (.int .u8 (48 + (r : Int))) := ((bcell hb5).1 _ _ (World.block_lt_of_cell? w6 _ c6)).trans c6
          refine hK.out _ _ (below_after hb5 hHeld) (fun hHeld2 => ?_); clear hb5; (clear hHeld; rename _ => hHeld; clear hK K; have hHeld : Below w.heap.size w _ := hHeld); (try simp only [Act.put, List.getElem_toArray, List.getElem_cons_succ, List.getElem_cons_zero, List.setIfInBounds_toArray, List.set_cons_zero, List.set_cons_succ])
          refine wpAnyH_ready (rs := [8]) (by kernel_rfl) (by simp) ?_; refine AllReadyH.cons rfl (fun K hK => ?_) (AllReadyH.nil)
          have h8 := digit_at r (by omega) _ w7 c6
          rw [HDG.out] at h8
          go_simp
          refine hK.out _ _ hHeld (fun hHeld2 => ?_); (clear hHeld; rename _ => hHeld; clear hK K; have hHeld : Below w.heap.size w _ := hHeld); (try simp only [Act.put, List.getElem_toArray, List.getElem_cons_succ, List.getElem_cons_zero, List.setIfInBounds_toArray, List.set_cons_zero, List.set_cons_succ])
          clear h8
          (refine wpAnyH_take (i := 9) (v := ?_) rfl (by kernel_rfl) (by kernel_rfl) (by kernel_rfl) (fun _ _ _ h => h) (Or.inl ⟨rfl, ?_⟩) (by assumption) ?_; rotate_left; focus (intro w hSw; (try dsimp only at hSw); go_simp; try (with_reducible rfl))); (try simp only [Act.put, List.getElem_toArray, List.getElem_cons_succ, List.getElem_cons_zero, List.setIfInBounds_toArray, List.set_cons_zero, List.set_cons_succ])
          (refine wpAnyH_take (i := 10) (v := ?_) rfl (by kernel_rfl) (by kernel_rfl) (by kernel_rfl) (fun _ _ _ h => h) (Or.inl ⟨rfl, ?_⟩) (by assumption) ?_; rotate_left; focus (intro w hSw; (try dsimp only at hSw); go_simp; try (with_reducible rfl))); (try simp only [Act.put, List.getElem_toArray, List.getElem_cons_succ, List.getElem_cons_zero, List.setIfInBounds_toArray, List.set_cons_zero, List.set_cons_succ])
          refine wpAnyH_done (by kernel_rfl) ?_ _
          go_wp2
          go_ret
          exact ⟨by rw [← HT.out]; rfl, hHeld⟩
        · have h8 := digit_at r (by omega) _ w6 c6
          rw [HDG.out] at h8
          go_simp
          refine hK.out _ _ hHeld (fun hHeld2 => ?_); (clear hHeld; rename _ => hHeld; clear hK K; have hHeld : Below w.heap.size w _ := hHeld); (try simp only [Act.put, List.getElem_toArray, List.getElem_cons_succ, List.getElem_cons_zero, List.setIfInBounds_toArray, List.set_cons_zero, List.set_cons_succ])
          clear h8
          refine wpAnyH_ready (rs := [2]) (by kernel_rfl) (by simp) ?_; refine AllReadyH.cons rfl (fun K hK => ?_) (AllReadyH.nil)
          go_simp; (go_at_call 35; refine (HI.out _).mono ?_; rintro en w7 ⟨rfl, hb5⟩)
          skip
          refine hK.out _ _ (below_after hb5 hHeld) (fun hHeld2 => ?_); clear hb5; (clear hHeld; rename _ => hHeld; clear hK K; have hHeld : Below w.heap.size w _ := hHeld); (try simp only [Act.put, List.getElem_toArray, List.getElem_cons_succ, List.getElem_cons_zero, List.setIfInBounds_toArray, List.set_cons_zero, List.set_cons_succ])
          (refine wpAnyH_take (i := 9) (v := ?_) rfl (by kernel_rfl) (by kernel_rfl) (by kernel_rfl) (fun _ _ _ h => h) (Or.inl ⟨rfl, ?_⟩) (by assumption) ?_; rotate_left; focus (intro w hSw; (try dsimp only at hSw); go_simp; try (with_reducible rfl))); (try simp only [Act.put, List.getElem_toArray, List.getElem_cons_succ, List.getElem_cons_zero, List.setIfInBounds_toArray, List.set_cons_zero, List.set_cons_succ])
          (refine wpAnyH_take (i := 10) (v := ?_) rfl (by kernel_rfl) (by kernel_rfl) (by kernel_rfl) (fun _ _ _ h => h) (Or.inl ⟨rfl, ?_⟩) (by assumption) ?_; rotate_left; focus (intro w hSw; (try dsimp only at hSw); go_simp; try (with_reducible rfl))); (try simp only [Act.put, List.getElem_toArray, List.getElem_cons_succ, List.getElem_cons_zero, List.setIfInBounds_toArray, List.set_cons_zero, List.set_cons_succ])
          refine wpAnyH_done (by kernel_rfl) ?_ _
          go_wp2
          go_ret
          exact ⟨by rw [← HT.out]; rfl, hHeld⟩
theorem l01Dec_any (n : Int) (w : World) (h1 : -10000000 ≤ n) (h2 : n ≤ 10000000) : Calls Tryd.prog 35 #[.int .i64 n] w fun e w' => e = .returned (.string ⟨(Lib.itoa n).toArray⟩) ∧ Below w.heap.size w w' := by
  by_cases hn : n < 0
  · obtain ⟨u, hu⟩ : ∃ u : Nat, n = -(u : Int) := ⟨n.natAbs, by omega⟩
    subst hu
    have HI := Lib.hid (l01Dec_nat (u + 1) u (by omega) (by omega))
    have HT : Hid ((⟨#[45]⟩ : ByteArray) ++ (⟨(Lib.decDigits u).toArray⟩ : ByteArray) = ⟨(Lib.itoa (-(u : Int))).toArray⟩) := by
      show _ = _
      rw [Lib.itoa_neg u (by omega), show (#[45] : Array UInt8) = [45].toArray from rfl, text_cat]
      rfl
    have hm : IntKind.i64.wrap (u : Int) = (u : Int) := by rw [IntKind.wrap_i64]; omega
    have hu1 : (0 : Int) < (u : Int) := by omega
    have q7 : ¬ 9223372036854775807 < 1 + (Lib.decDigits u).length := by have := dec_len _ u (Nat.lt_succ_self u); omega
    go_enter Tryd.func35, Tryd.ntmps35
    go_wp2_with (go_at_call 35; refine (HI.out _).mono ?_; rintro en w5 ⟨rfl, hb5⟩)
    go_ret
    exact ⟨by rw [← HT.out]; rfl, hb5⟩
  · obtain ⟨u, hu⟩ : ∃ u : Nat, n = (u : Int) := ⟨n.toNat, by omega⟩
    subst hu
    rw [Lib.itoa_nonneg]
    exact l01Dec_nat (u + 1) u (by omega) (by omega) w
end Go.Proofs.YtfpmphnjjkionaaDoor
