/-
  FractionOfPath in the program (own work).
-/
import Derived.Test.YtohnmogejidpdabDoorFpS
import Derived.Test.YtohnmogejidpdabDoorTrn
import Derived.Test.YtohnmogejidpdabDoorTrm
import Derived.Deep.DeepCutAuto
namespace Go.Proofs.YtohnmogejidpdabDoor
open Go.ChangeShapes Go.WideShapes Go.ChangeAt Go.RowKit
set_option linter.unusedVariables false
set_option maxRecDepth 100000
set_option linter.unusedSimpArgs false
set_option maxRecDepth 100000

theorem pw_step (i : Nat) : (2 : Int) ^ (i + 1) = 2 * 2 ^ i := by rw [Int.pow_succ]; omega
theorem pw_nat (i : Nat) : (2 : Int) ^ i = ((2 ^ i : Nat) : Int) := by simp
theorem pw_le {i : Nat} (h : i ≤ 60) : (2 : Int) ^ i ≤ 1152921504606846976 := by
  rw [pw_nat]
  have : 2 ^ i ≤ 2 ^ 60 := Nat.pow_le_pow_right (by decide) h
  have e : (2 : Nat) ^ 60 = 1152921504606846976 := by decide
  rw [e] at this
  omega
set_option maxHeartbeats 1600000 in
theorem areTurnLetters60_any (l : List UInt8) (w : World) (hl : l.length ≤ 1048576) : Calls Tryd.prog 17 #[.string ⟨l.toArray⟩, .int .i64 60] w fun e w' => e = .returned (.bool (okL l && decide (l.length ≤ 60))) ∧ Below w.heap.size w w' := by
  have hsz := bytes_size l
  by_cases h200 : l.length ≤ 60
  · have hg : decide ((l.length : Int) ≤ 60) = true := by simp; omega
    have HT := Lib.hid (fun w => trim_any l w hl)
    have htr := trim_ok l
    obtain ⟨T, hT⟩ : ∃ T, Lib.trimS l [76, 82] = T := ⟨_, rfl⟩
    rw [hT] at HT htr
    clear hT
    cases hok : okL l
    · rw [show (false && decide (l.length ≤ 60)) = false from rfl]
      have hTn : ¬ T = [] := fun h => by rw [htr.1 h] at hok; exact absurd hok (by decide)
      have hTb : T.isEmpty = false := by
        cases T with
        | nil => exact absurd rfl hTn
        | cons _ _ => rfl
      clear htr hok
      go_enter Tryd.func17, Tryd.ntmps17
      go_wp2_with fail
      go_at_call 40
      refine (HT.out _).mono ?_
      rintro e w1 ⟨rfl, hb⟩
      go_wp2_with fail
      go_ret
      exact ⟨by first | rfl | simp [hTb] | simp [hTn], hb⟩
    · obtain rfl := htr.2 hok
      rw [show (true && decide (l.length ≤ 60)) = true from by simpa using h200]
      clear htr hok
      go_enter Tryd.func17, Tryd.ntmps17
      go_wp2_with fail
      go_at_call 40
      refine (HT.out _).mono ?_
      rintro e w1 ⟨rfl, hb⟩
      go_wp2_with fail
      go_ret
      exact ⟨by first | rfl | simp, hb⟩
  · have hg : decide ((l.length : Int) ≤ 60) = false := by simp; omega
    rw [show (okL l && decide (l.length ≤ 60)) = false from by rw [show decide (l.length ≤ 60) = false from by simpa using h200, Bool.and_false]]
    go_enter Tryd.func17, Tryd.ntmps17
    go_wp2_with fail
    go_ret
    exact ⟨rfl, Below.refl _ _⟩
set_option maxHeartbeats 6400000 in
theorem impl_FractionOfPath_any (l : List UInt8) (w : World) (hl : l.length ≤ 1048576) :
    Calls Tryd.prog 6 #[.string ⟨l.toArray⟩] w fun e w' => e = .returned (.tuple #[.agg #[.int .i64 (onz (fpC l) (fpX l)), .int .i64 (onz (fpC l) (fpY l))], .int .i64 (fpC l)]) ∧ Below w.heap.size w w' := by
  have hsz := bytes_size l
  have HT := Lib.hid (fun w => areTurnLetters60_any l w hl)
  cases hok2 : (okL l && decide (l.length ≤ 60))
  · have hc : fpC l = 2 := by
      rcases Nat.lt_or_ge 60 l.length with h | h
      · exact fpC_range (.inl h)
      · refine fpC_range (.inr ?_)
        rw [show decide (l.length ≤ 60) = true from by simpa using h, Bool.and_true] at hok2
        exact hok2
    rw [hok2] at HT
    rw [hc, onz_no (by decide), onz_no (by decide)]
    clear hok2 hc
    have hs20 : w.heap.size < w.heap.size + 1 + 1 := (by omega); have hs30 : w.heap.size < w.heap.size + 1 + 1 + 1 := (by omega); have hs31 : w.heap.size + 1 < w.heap.size + 1 + 1 + 1 := (by omega); have hs40 : w.heap.size < w.heap.size + 1 + 1 + 1 + 1 := (by omega); have hs41 : w.heap.size + 1 < w.heap.size + 1 + 1 + 1 + 1 := (by omega); have hs42 : w.heap.size + 1 + 1 < w.heap.size + 1 + 1 + 1 + 1 := (by omega)
    go_enter Tryd.func6, Tryd.ntmps6
    go_wp2_with fail
    go_at_call 17
    refine (HT.out _).mono ?_
    rintro e w1 ⟨rfl, hb⟩
    obtain ⟨⟨a0, a1⟩, ⟨a2, a3⟩, az⟩ := (bk2_new w 0 0 23).below hb
    have hbF : Below w.heap.size w w1 := below_after hb (by (repeat' (first | (with_reducible exact Below.refl _ _) | (with_reducible refine Below.alloc ?_ ?_ _) | (with_reducible refine Below.setCell ?_ ?_ _) | (with_reducible refine Below.drew ?_) | (with_reducible refine below_drewN ?_ _) | (with_reducible assumption) | (with_reducible refine below_after (by with_reducible assumption) ?_) | go_size)))
    clear hb
    go_wp2_with fail
    refine bodyPost_ret (v := .tuple #[.agg #[.int .i64 0, .int .i64 0], .int .i64 2]) (by simp (maxDischargeDepth := 8) [results, Tryd.results6, go_sem, *]) rfl ?_
    exact ⟨rfl, by (repeat' (first | (with_reducible exact Below.refl _ _) | (with_reducible refine Below.alloc ?_ ?_ _) | (with_reducible refine Below.setCell ?_ ?_ _) | (with_reducible refine Below.drew ?_) | (with_reducible refine below_drewN ?_ _) | (with_reducible assumption) | (with_reducible refine below_after (by with_reducible assumption) ?_) | go_size))⟩
  · rw [hok2] at HT
    obtain ⟨hok, h60⟩ : okL l = true ∧ l.length ≤ 60 := by simpa using hok2
    clear hok2
    · have HCK : Hid (fpC l = if isPt (fpX l, fpY l) = true then 0 else 3) := fpC_in (by rw [hok]; simp; omega)
      have HOKA : Hid (∀ (j : Nat) (h : j < l.length), isLt l[j] = true) := fun j h => by
        unfold okL at hok
        rw [List.all_eq_true] at hok
        exact hok _ (List.getElem_mem h)
      have HFin : Hid (fpS l 0 1 1 0 = ((((fpS l 0 1 1 0).1.1, (fpS l 0 1 1 0).1.2), (fpS l 0 1 1 0).2.1, (fpS l 0 1 1 0).2.2) : (Int × Int) × Int × Int) ∧ fpX l = (fpS l 0 1 1 0).1.1 + (fpS l 0 1 1 0).2.1 ∧ fpY l = (fpS l 0 1 1 0).1.2 + (fpS l 0 1 1 0).2.2) := ⟨rfl, rfl, rfl⟩
      generalize (fpS l 0 1 1 0).1.1 = F0 at *
      generalize (fpS l 0 1 1 0).1.2 = F1 at *
      generalize (fpS l 0 1 1 0).2.1 = F2 at *
      generalize (fpS l 0 1 1 0).2.2 = F3 at *
      generalize fpX l = X at *
      generalize fpY l = Y at *
      generalize fpC l = C at *
      obtain ⟨RX, hRX⟩ : ∃ R, onz C X = R := ⟨_, rfl⟩
      obtain ⟨RY, hRY⟩ : ∃ R, onz C Y = R := ⟨_, rfl⟩
      have HRX : Hid (RX = onz C X ∧ RY = onz C Y) := ⟨hRX.symm, hRY.symm⟩
      rw [hRX, hRY]
      clear hRX hRY hok
      have hi0 := idx_turn0
      have hi1 := idx_turn1
      have hs20 : w.heap.size < w.heap.size + 1 + 1 := (by omega); have hs30 : w.heap.size < w.heap.size + 1 + 1 + 1 := (by omega); have hs31 : w.heap.size + 1 < w.heap.size + 1 + 1 + 1 := (by omega)
      go_enter Tryd.func6, Tryd.ntmps6
      go_wp2_with fail
      go_at_call 17
      refine (HT.out _).mono ?_
      rintro e w1 ⟨rfl, hb⟩
      have HB1 : Hid (Bk2 w1 w.heap.size 0 0 ∧ Below w.heap.size w w1) := ⟨(bk2_new w 0 0 23).below hb, below_after hb (by (repeat' (first | (with_reducible exact Below.refl _ _) | (with_reducible refine Below.alloc ?_ ?_ _) | (with_reducible refine Below.setCell ?_ ?_ _) | (with_reducible refine Below.drew ?_) | (with_reducible refine below_drewN ?_ _) | (with_reducible assumption) | (with_reducible refine below_after (by with_reducible assumption) ?_) | go_size)))⟩
      clear hb
      go_wp2_with fail
      go_at_call 18
      refine (rootOfTree_any _).mono ?_
      rintro e w2 ⟨n0, rfl, hn0, kn, hb⟩
      have HB2 : Hid (Bk2 w2 w.heap.size 0 0 ∧ Below w.heap.size w w2) := ⟨HB1.out.1.below hb, below_after hb HB1.out.2⟩
      have HN0 := Lib.hid hn0
      clear hb hn0
      go_wp2_with fail
      go_loopw [4, 13] (fun x y wr => ∃ (j n : Nat) (u0 u1 v0 v1 : Int), x = .pointer (some ⟨n, 0, none⟩) ∧ y = .int .i64 (j : Int) ∧ Nt wr n (u0 + v0) (u1 + v1) u0 u1 v0 v1 ∧ j ≤ l.length ∧ 0 ≤ u0 ∧ 0 ≤ u1 ∧ 0 ≤ v0 ∧ 0 ≤ v1 ∧ u0 + v0 ≤ 2 ^ j ∧ u1 + v1 ≤ 2 ^ j ∧ fpS (l.drop j) u0 u1 v0 v1 = ((F0, F1), F2, F3) ∧ Bk2 wr w.heap.size 0 0 ∧ Below w.heap.size w wr)
        (fun _ y _ => 100 - (intOf y).toNat)
      case atStart => exact ⟨0, n0, 0, 1, 1, 0, rfl, rfl, HN0.out, by omega, by omega, by omega, by omega, by omega, by decide, by decide, HFin.out.1, HB2.out.1, HB2.out.2⟩
      case round =>
        obtain ⟨j, n, u0, u1, v0, v1, rfl, rfl, hnt, hj, u00, u10, v00, v10, ub0, ub1, hF, hb0, hbel⟩ := hrel
        have HFS := Lib.hid hF
        have HNT := Lib.hid hnt
        have HB : Hid (Bk2 wr w.heap.size 0 0 ∧ Below w.heap.size w wr) := ⟨hb0, hbel⟩
        obtain ⟨PW, hPW⟩ : ∃ PW : Int, (2 : Int) ^ j = PW := ⟨_, rfl⟩
        have hpl : PW ≤ 1152921504606846976 := hPW ▸ pw_le (by omega)
        rw [hPW] at ub0 ub1
        have HPW : Hid ((2 : Int) ^ (j + 1) = 2 * PW) := by show _ = _; rw [pw_step, hPW]
        have HW : Hid ((Wn u0 ∧ Wn u1) ∧ (Wn v0 ∧ Wn v1) ∧ (Wn (u0 + v0) ∧ Wn (u1 + v1))) := by
          refine ⟨⟨⟨?_, ?_⟩, ⟨?_, ?_⟩⟩, ⟨⟨?_, ?_⟩, ⟨?_, ?_⟩⟩, ⟨?_, ?_⟩, ⟨?_, ?_⟩⟩ <;> omega
        clear hF hbel hb0 hPW hnt
        by_cases hjl : j < l.length
        · have hlt : decide ((j : Int) < (l.length : Int)) = true := by simp; omega
          obtain ⟨b, hb⟩ : ∃ b, l[j] = b := ⟨_, rfl⟩
          have hidx := at_byte l j b hjl hb
          have hlet : b = 76 ∨ b = 82 := by
            have := HOKA.out j hjl
            rw [hb] at this
            simpa [isLt] using this
          have HI : Hid (l.drop j = b :: l.drop (j + 1)) := by
            show l.drop j = b :: l.drop (j + 1)
            rw [drop_at hjl, hb]
          clear hb
          rcases hlet with rfl | rfl
          · have HNXT : Hid (fpS (l.drop (j + 1)) u0 u1 (u0 + v0) (u1 + v1) = ((F0, F1), F2, F3)) := by
              have h1 := HFS.out
              rw [HI.out, fpS_L rfl] at h1
              exact h1
            go_upto_region 7 with fail
            refine wp_region_held_drew (S := fun W => Below wr.heap.size wr W) (by kernel_rfl) ?_ (fun hHeld => ?_); focus ((try dsimp only); exact (Below.refl _ _).drew)
            have hHeld : Below wr.heap.size wr _ := hHeld
            obtain ⟨wA, hwA⟩ : ∃ wD, wr.drew = wD := ⟨_, rfl⟩
            rw [hwA] at hHeld ⊢
            clear hwA
            (refine wpAnyH_take (i := 1) (v := ?_) rfl (by kernel_rfl) (by kernel_rfl) (by kernel_rfl) (fun _ _ _ h => h) (Or.inl ⟨rfl, ?_⟩) (by assumption) ?_; rotate_left; focus (intro W hSw; (try dsimp only at hSw); skip; go_simp; try (with_reducible rfl))); (try simp only [Act.put, List.getElem_toArray, List.getElem_cons_succ, List.getElem_cons_zero, List.setIfInBounds_toArray, List.set_cons_zero, List.set_cons_succ])
            (refine wpAnyH_take (i := 2) (v := ?_) rfl (by kernel_rfl) (by kernel_rfl) (by kernel_rfl) (fun _ _ _ h => h) (Or.inl ⟨rfl, ?_⟩) (by assumption) ?_; rotate_left; focus (intro W hSw; (try dsimp only at hSw); skip; go_simp; try (with_reducible rfl))); (try simp only [Act.put, List.getElem_toArray, List.getElem_cons_succ, List.getElem_cons_zero, List.setIfInBounds_toArray, List.set_cons_zero, List.set_cons_succ])
            (refine wpAnyH_take (i := 3) (v := ?_) rfl (by kernel_rfl) (by kernel_rfl) (by kernel_rfl) (fun _ _ _ h => h) (Or.inl ⟨rfl, ?_⟩) (by assumption) ?_; rotate_left; focus (intro W hSw; (try dsimp only at hSw); skip; go_simp; try (with_reducible rfl))); (try simp only [Act.put, List.getElem_toArray, List.getElem_cons_succ, List.getElem_cons_zero, List.setIfInBounds_toArray, List.set_cons_zero, List.set_cons_succ])
            (refine wpAnyH_take (i := 6) (v := ?_) rfl (by kernel_rfl) (by kernel_rfl) (by kernel_rfl) (fun _ _ _ h => h) (Or.inl ⟨rfl, ?_⟩) (by assumption) ?_; rotate_left; focus (intro W hSw; (try dsimp only at hSw); skip; go_simp; try (with_reducible rfl))); (try simp only [Act.put, List.getElem_toArray, List.getElem_cons_succ, List.getElem_cons_zero, List.setIfInBounds_toArray, List.set_cons_zero, List.set_cons_succ])
            refine wpAnyH_ready (rs := [0]) (by kernel_rfl) (by simp) ?_; refine AllReadyH.cons rfl (fun K hK => ?_) AllReadyH.nil
            go_simp; (go_at_call 19; refine (turns_any _).mono ?_; rintro en y1 ⟨rfl, hb2⟩); refine hK.out _ _ (below_after hb2 hHeld) (fun hHeld2 => ?_); clear hb2; (clear hHeld; rename _ => hHeld; clear hK K; have hHeld : Below wr.heap.size wr _ := hHeld); (try simp only [Act.put, List.getElem_toArray, List.getElem_cons_succ, List.getElem_cons_zero, List.setIfInBounds_toArray, List.set_cons_zero, List.set_cons_succ])
            refine wpAnyH_ready (rs := [4]) (by kernel_rfl) (by simp) ?_; refine AllReadyH.cons rfl (fun K hK => ?_) AllReadyH.nil
            go_simp; (go_at_call 20; refine (index_L _).mono ?_; rintro en y2 ⟨rfl, rfl⟩); refine hK.out _ _ hHeld (fun hHeld2 => ?_); (clear hHeld; rename _ => hHeld; clear hK K; have hHeld : Below wr.heap.size wr _ := hHeld); (try simp only [Act.put, List.getElem_toArray, List.getElem_cons_succ, List.getElem_cons_zero, List.setIfInBounds_toArray, List.set_cons_zero, List.set_cons_succ])
            (refine wpAnyH_take (i := 5) (v := ?_) rfl (by kernel_rfl) (by kernel_rfl) (by kernel_rfl) (fun _ _ _ h => h) (Or.inl ⟨rfl, ?_⟩) (by assumption) ?_; rotate_left; focus (intro W hSw; (try dsimp only at hSw); skip; go_simp; try (with_reducible rfl))); (try simp only [Act.put, List.getElem_toArray, List.getElem_cons_succ, List.getElem_cons_zero, List.setIfInBounds_toArray, List.set_cons_zero, List.set_cons_succ])
            refine wpAnyH_ready (rs := [7]) (by kernel_rfl) (by simp) ?_; refine AllReadyH.cons rfl (fun K hK => ?_) AllReadyH.nil
            go_simp; (go_at_call 41; refine (left_any n _ _ _ _ _ _ _ (HNT.out.below hHeld) HW.out.2.2.1 HW.out.2.2.2 HW.out.1.1 HW.out.1.2).mono ?_; rintro en y3 ⟨n3, rfl, hn3, hle3, hb2⟩); refine hK.out _ _ (below_after hb2 hHeld) (fun hHeld2 => ?_); clear hb2; (clear hHeld; rename _ => hHeld; clear hK K; have hHeld : Below wr.heap.size wr _ := hHeld); (try simp only [Act.put, List.getElem_toArray, List.getElem_cons_succ, List.getElem_cons_zero, List.setIfInBounds_toArray, List.set_cons_zero, List.set_cons_succ])
            (refine wpAnyH_take (i := 8) (v := ?_) rfl (by kernel_rfl) (by kernel_rfl) (by kernel_rfl) (fun _ _ _ h => h) (Or.inl ⟨rfl, ?_⟩) (by assumption) ?_; rotate_left; focus (intro W hSw; (try dsimp only at hSw); skip; go_simp; try (with_reducible rfl))); (try simp only [Act.put, List.getElem_toArray, List.getElem_cons_succ, List.getElem_cons_zero, List.setIfInBounds_toArray, List.set_cons_zero, List.set_cons_succ])
            refine wpAnyH_done (by kernel_rfl) ?_ _
            have HFB : Hid (Bk2 y3 w.heap.size 0 0 ∧ Below w.heap.size w y3) := ⟨HB.out.1.below hHeld, below_after hHeld HB.out.2⟩
            have HN3 : Hid (Nt y3 n3 (u0 + (u0 + v0)) (u1 + (u1 + v1)) (u0) (u1) (u0 + v0) (u1 + v1)) := (by have := hn3; rw [Int.add_comm (u0 + v0) u0, Int.add_comm (u1 + v1) u1] at this; exact this)
            clear hHeld hn3
            go_wp2_with fail
            go_roundw
            case rel => exact ⟨j + 1, n3, u0, u1, u0 + v0, u1 + v1, rfl, rfl, HN3.out, by omega, by omega, by omega, by omega, by omega, by have := HPW.out; omega, by have := HPW.out; omega, HNXT.out, HFB.out.1, HFB.out.2⟩
            case measure => simp only [intOf]; omega
          · have HNXT : Hid (fpS (l.drop (j + 1)) (u0 + v0) (u1 + v1) v0 v1 = ((F0, F1), F2, F3)) := by
              have h1 := HFS.out
              rw [HI.out, fpS_R (by decide)] at h1
              exact h1
            go_upto_region 7 with fail
            refine wp_region_held_drew (S := fun W => Below wr.heap.size wr W) (by kernel_rfl) ?_ (fun hHeld => ?_); focus ((try dsimp only); exact (Below.refl _ _).drew)
            have hHeld : Below wr.heap.size wr _ := hHeld
            obtain ⟨wA, hwA⟩ : ∃ wD, wr.drew = wD := ⟨_, rfl⟩
            rw [hwA] at hHeld ⊢
            clear hwA
            (refine wpAnyH_take (i := 1) (v := ?_) rfl (by kernel_rfl) (by kernel_rfl) (by kernel_rfl) (fun _ _ _ h => h) (Or.inl ⟨rfl, ?_⟩) (by assumption) ?_; rotate_left; focus (intro W hSw; (try dsimp only at hSw); skip; go_simp; try (with_reducible rfl))); (try simp only [Act.put, List.getElem_toArray, List.getElem_cons_succ, List.getElem_cons_zero, List.setIfInBounds_toArray, List.set_cons_zero, List.set_cons_succ])
            (refine wpAnyH_take (i := 2) (v := ?_) rfl (by kernel_rfl) (by kernel_rfl) (by kernel_rfl) (fun _ _ _ h => h) (Or.inl ⟨rfl, ?_⟩) (by assumption) ?_; rotate_left; focus (intro W hSw; (try dsimp only at hSw); skip; go_simp; try (with_reducible rfl))); (try simp only [Act.put, List.getElem_toArray, List.getElem_cons_succ, List.getElem_cons_zero, List.setIfInBounds_toArray, List.set_cons_zero, List.set_cons_succ])
            (refine wpAnyH_take (i := 3) (v := ?_) rfl (by kernel_rfl) (by kernel_rfl) (by kernel_rfl) (fun _ _ _ h => h) (Or.inl ⟨rfl, ?_⟩) (by assumption) ?_; rotate_left; focus (intro W hSw; (try dsimp only at hSw); skip; go_simp; try (with_reducible rfl))); (try simp only [Act.put, List.getElem_toArray, List.getElem_cons_succ, List.getElem_cons_zero, List.setIfInBounds_toArray, List.set_cons_zero, List.set_cons_succ])
            (refine wpAnyH_take (i := 6) (v := ?_) rfl (by kernel_rfl) (by kernel_rfl) (by kernel_rfl) (fun _ _ _ h => h) (Or.inl ⟨rfl, ?_⟩) (by assumption) ?_; rotate_left; focus (intro W hSw; (try dsimp only at hSw); skip; go_simp; try (with_reducible rfl))); (try simp only [Act.put, List.getElem_toArray, List.getElem_cons_succ, List.getElem_cons_zero, List.setIfInBounds_toArray, List.set_cons_zero, List.set_cons_succ])
            refine wpAnyH_ready (rs := [0]) (by kernel_rfl) (by simp) ?_; refine AllReadyH.cons rfl (fun K hK => ?_) AllReadyH.nil
            go_simp; (go_at_call 19; refine (turns_any _).mono ?_; rintro en y1 ⟨rfl, hb2⟩); refine hK.out _ _ (below_after hb2 hHeld) (fun hHeld2 => ?_); clear hb2; (clear hHeld; rename _ => hHeld; clear hK K; have hHeld : Below wr.heap.size wr _ := hHeld); (try simp only [Act.put, List.getElem_toArray, List.getElem_cons_succ, List.getElem_cons_zero, List.setIfInBounds_toArray, List.set_cons_zero, List.set_cons_succ])
            refine wpAnyH_ready (rs := [4]) (by kernel_rfl) (by simp) ?_; refine AllReadyH.cons rfl (fun K hK => ?_) AllReadyH.nil
            go_simp; (go_at_call 20; refine (index_R _).mono ?_; rintro en y2 ⟨rfl, rfl⟩); refine hK.out _ _ hHeld (fun hHeld2 => ?_); (clear hHeld; rename _ => hHeld; clear hK K; have hHeld : Below wr.heap.size wr _ := hHeld); (try simp only [Act.put, List.getElem_toArray, List.getElem_cons_succ, List.getElem_cons_zero, List.setIfInBounds_toArray, List.set_cons_zero, List.set_cons_succ])
            (refine wpAnyH_take (i := 5) (v := ?_) rfl (by kernel_rfl) (by kernel_rfl) (by kernel_rfl) (fun _ _ _ h => h) (Or.inl ⟨rfl, ?_⟩) (by assumption) ?_; rotate_left; focus (intro W hSw; (try dsimp only at hSw); skip; go_simp; try (with_reducible rfl))); (try simp only [Act.put, List.getElem_toArray, List.getElem_cons_succ, List.getElem_cons_zero, List.setIfInBounds_toArray, List.set_cons_zero, List.set_cons_succ])
            refine wpAnyH_ready (rs := [7]) (by kernel_rfl) (by simp) ?_; refine AllReadyH.cons rfl (fun K hK => ?_) AllReadyH.nil
            go_simp; (go_at_call 42; refine (right_any n _ _ _ _ _ _ _ (HNT.out.below hHeld) HW.out.2.2.1 HW.out.2.2.2 HW.out.2.1.1 HW.out.2.1.2).mono ?_; rintro en y3 ⟨n3, rfl, hn3, hle3, hb2⟩); refine hK.out _ _ (below_after hb2 hHeld) (fun hHeld2 => ?_); clear hb2; (clear hHeld; rename _ => hHeld; clear hK K; have hHeld : Below wr.heap.size wr _ := hHeld); (try simp only [Act.put, List.getElem_toArray, List.getElem_cons_succ, List.getElem_cons_zero, List.setIfInBounds_toArray, List.set_cons_zero, List.set_cons_succ])
            (refine wpAnyH_take (i := 8) (v := ?_) rfl (by kernel_rfl) (by kernel_rfl) (by kernel_rfl) (fun _ _ _ h => h) (Or.inl ⟨rfl, ?_⟩) (by assumption) ?_; rotate_left; focus (intro W hSw; (try dsimp only at hSw); skip; go_simp; try (with_reducible rfl))); (try simp only [Act.put, List.getElem_toArray, List.getElem_cons_succ, List.getElem_cons_zero, List.setIfInBounds_toArray, List.set_cons_zero, List.set_cons_succ])
            refine wpAnyH_done (by kernel_rfl) ?_ _
            have HFB : Hid (Bk2 y3 w.heap.size 0 0 ∧ Below w.heap.size w y3) := ⟨HB.out.1.below hHeld, below_after hHeld HB.out.2⟩
            have HN3 : Hid (Nt y3 n3 (u0 + v0 + v0) (u1 + v1 + v1) (u0 + v0) (u1 + v1) (v0) (v1)) := hn3
            clear hHeld hn3
            go_wp2_with fail
            go_roundw
            case rel => exact ⟨j + 1, n3, u0 + v0, u1 + v1, v0, v1, rfl, rfl, HN3.out, by omega, by omega, by omega, by omega, by omega, by have := HPW.out; omega, by have := HPW.out; omega, HNXT.out, HFB.out.1, HFB.out.2⟩
            case measure => simp only [intOf]; omega
        · have hlt : decide ((j : Int) < (l.length : Int)) = false := by simp; omega
          have hdr : l.drop j = [] := List.drop_eq_nil_of_le (by omega)
          have hfs := HFS.out
          rw [hdr] at hfs
          simp only [fpS, Prod.mk.injEq] at hfs
          obtain ⟨⟨rfl, rfl⟩, rfl, rfl⟩ := hfs
          have hX := HFin.out.2.1
          have hY := HFin.out.2.2
          subst hX
          subst hY
          obtain ⟨ln, gn, ⟨m0, m1⟩, _⟩ := HNT.out
          clear hdr
          go_wp2_with fail
          go_at_call 21
          cases hq : isPt (u0 + v0, u1 + v1)
          · have hc3 : C = 3 := by rw [HCK.out, hq]; rfl
            subst hc3
            have hr0 : RX = 0 := HRX.out.1.trans (onz_no (by decide))
            have hr1 : RY = 0 := HRX.out.2.trans (onz_no (by decide))
            subst hr0
            subst hr1
            refine (limitedPoint_no _ _ _ hq).mono ?_
            rintro e w3 ⟨rfl, hb⟩
            obtain ⟨⟨a0, a1⟩, ⟨a2, a3⟩, az⟩ := HB.out.1.below hb
            have hbF : Below w.heap.size w w3 := below_after hb HB.out.2
            clear hb m0 m1
            go_wp2_with fail
            refine bodyPost_ret (v := .tuple #[.agg #[.int .i64 0, .int .i64 0], .int .i64 3]) (by simp (maxDischargeDepth := 8) [results, Tryd.results6, go_sem, *]) rfl ?_
            exact ⟨rfl, by (repeat' (first | (with_reducible exact Below.refl _ _) | (with_reducible refine Below.alloc ?_ ?_ _) | (with_reducible refine Below.setCell ?_ ?_ _) | (with_reducible refine Below.drew ?_) | (with_reducible refine below_drewN ?_ _) | (with_reducible assumption) | (with_reducible refine below_after (by with_reducible assumption) ?_) | go_size))⟩
          · have hc3 : C = 0 := by rw [HCK.out, hq]; rfl
            subst hc3
            have hr0 : RX = u0 + v0 := HRX.out.1.trans (onz_yes _)
            have hr1 : RY = u1 + v1 := HRX.out.2.trans (onz_yes _)
            subst hr0
            subst hr1
            refine (limitedPoint_yes _ _ _ hq).mono ?_
            rintro e w3 ⟨rfl, hb⟩
            obtain ⟨⟨a0, a1⟩, ⟨a2, a3⟩, az⟩ := HB.out.1.below hb
            have hbF : Below w.heap.size w w3 := below_after hb HB.out.2
            clear hb m0 m1
            go_wp2_with fail
            refine bodyPost_ret (v := .tuple #[.agg #[.int .i64 (u0 + v0), .int .i64 (u1 + v1)], .int .i64 0]) (by simp (maxDischargeDepth := 8) [results, Tryd.results6, go_sem, *]) rfl ?_
            exact ⟨rfl, by (repeat' (first | (with_reducible exact Below.refl _ _) | (with_reducible refine Below.alloc ?_ ?_ _) | (with_reducible refine Below.setCell ?_ ?_ _) | (with_reducible refine Below.drew ?_) | (with_reducible refine below_drewN ?_ _) | (with_reducible assumption) | (with_reducible refine below_after (by with_reducible assumption) ?_) | go_size))⟩
end Go.Proofs.YtohnmogejidpdabDoor
