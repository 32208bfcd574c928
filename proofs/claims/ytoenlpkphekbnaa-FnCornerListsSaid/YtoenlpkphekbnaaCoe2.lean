/-
  Contracts of chapter 2's CornerOfExpansion in the model (own work).
-/
import Derived.Test.YtoenlpkphekbnaaCoe
namespace Go.Proofs.Ytoenlpkphekbnaa
open Go.ChangeShapes Go.WideShapes Go.ChangeAt Go.RowKit
set_option linter.unusedVariables false
set_option maxRecDepth 100000
set_option linter.unusedSimpArgs false

set_option maxHeartbeats 1600000 in
theorem l02OfList_any (B : Nat) (v : Value) (xs : List Int) (w : World) (h : OwnI B w v xs) (hl : 1 ≤ xs.length) (hx : xs.length ≤ 1048576) (hz : ∀ i : Nat, crd (xs[i]?.getD 0) = true) :
    Calls Try.prog 129 #[v] w fun e w' => e = .returned (colV xs) ∧ Below w.heap.size w w' := by
  obtain ⟨a, cap, rfl, f⟩ := own_view h
  obtain ⟨g, rfl, _, hg, hc, _⟩ := f (by omega)
  obtain ⟨n, hn⟩ : ∃ n, xs.length = n := ⟨_, rfl⟩
  have HN := Lib.hid hn
  have HZ := Lib.hid hz
  have HC := Lib.hid hc
  have hgne : g ≠ w.heap.size := by omega
  rw [hn] at hl hx ⊢
  have hi9 : (1 : Int) ≤ (n : Int) := by omega
  have hi8 : (n : Int) ≤ 1048576 := by omega
  clear h f hc hn hz
  go_enter Try.func129, Try.ntmps129
  go_wp2
  go_loop [4, 5, 6] (fun p q i => ∃ r : Nat, r ≤ n ∧ i = .int .i64 ((r : Int) - 1) ∧ p = .int .i64 (ff (xs.drop r)).1 ∧ q = .int .i64 (ff (xs.drop r)).2 ∧ okF (xs.drop r) = true) (fun _ _ i => (intOf i + 1).toNat)
  case atStart =>
    refine ⟨n, by omega, rfl, ?_, ?_, ?_⟩
    · rw [List.drop_of_length_le (by rw [HN.out]; exact Nat.le_refl _)]; rfl
    · rw [List.drop_of_length_le (by rw [HN.out]; exact Nat.le_refl _)]; rfl
    · rw [List.drop_of_length_le (by rw [HN.out]; exact Nat.le_refl _)]; rfl
  case round =>
    obtain ⟨r, hr, rfl, rfl, rfl, hok⟩ := hrel
    have HK := Lib.hid hok
    have hP := isPt_c1 (x := (ff (xs.drop r)).1) (y := (ff (xs.drop r)).2) (okF_pt hok (by have := HN.out; omega))
    have hQ := isPt_c2 (x := (ff (xs.drop r)).1) (y := (ff (xs.drop r)).2) (okF_pt hok (by have := HN.out; omega))
    clear hok
    cases r with
    | zero =>
      have hd : ((0 : Nat) : Int) - 1 = -1 := rfl
      rw [hd]
      clear hd
      have hk := HK.out
      rw [List.drop_zero] at hk hP hQ
      have e0 : xs.drop 0 = xs := List.drop_zero
      rw [e0]
      have HK2 := Lib.hid hk
      clear hk e0
      by_cases h0 : (ff xs).1 = 0
      · have HV : Hid (colV xs = .tuple #[.agg #[.int .i64 0, .int .i64 0, .int .i64 0, .int .i64 0], .int .i64 5]) := by show colV xs = _; unfold colV; rw [colC_state HK2.out h0]; rfl
        rw [h0]
        clear h0 hP
        go_wp2
        refine bodyPost_ret (v := .tuple #[.agg #[.int .i64 0, .int .i64 0, .int .i64 0, .int .i64 0], .int .i64 5]) (by simp (maxDischargeDepth := 8) [results, Try.results129, go_sem, *]) rfl ?_
        exact ⟨by rw [HV.out], by (repeat' (first | (with_reducible exact Below.refl _ _) | (with_reducible refine Below.alloc ?_ ?_ _) | (with_reducible refine Below.setCell ?_ ?_ _) | (with_reducible refine Below.drew ?_) | (with_reducible refine below_drewN ?_ _) | (with_reducible assumption) | (with_reducible refine below_after (by with_reducible assumption) ?_) | go_size))⟩
      · have HV : Hid (colV xs = .tuple #[.agg #[.int .i64 1, .int .i64 0, .int .i64 (ff xs).2, .int .i64 (ff xs).1], .int .i64 0]) := by show colV xs = _; unfold colV; rw [colC_yes HK2.out h0]; rfl
        have h0b : ((ff xs).1 == 0) = false := by simpa using h0
        go_wp2
        refine bodyPost_ret (v := .tuple #[.agg #[.int .i64 1, .int .i64 0, .int .i64 (ff xs).2, .int .i64 (ff xs).1], .int .i64 0]) (by simp (maxDischargeDepth := 8) [results, Try.results129, go_sem, *]) rfl ?_
        exact ⟨by rw [HV.out], by (repeat' (first | (with_reducible exact Below.refl _ _) | (with_reducible refine Below.alloc ?_ ?_ _) | (with_reducible refine Below.setCell ?_ ?_ _) | (with_reducible refine Below.drew ?_) | (with_reducible refine below_drewN ?_ _) | (with_reducible assumption) | (with_reducible refine below_after (by with_reducible assumption) ?_) | go_size))⟩
    | succ t =>
      have hd : ((t + 1 : Nat) : Int) - 1 = (t : Int) := by omega
      rw [hd]
      clear hd
      have hc := HC.out t (by have := HN.out; omega)
      obtain ⟨x, hx⟩ : ∃ x, xs.getD t 0 = x := ⟨_, rfl⟩
      rw [hx] at hc
      have HS : Hid (ff (xs.drop t) = (x * (ff (xs.drop (t + 1))).1 + (ff (xs.drop (t + 1))).2, (ff (xs.drop (t + 1))).1)) := by
        show ff (xs.drop t) = _
        rw [drop_step (by have := HN.out; omega), hx]; rfl
      have HO : Hid (okF (xs.drop t) = (okF (xs.drop (t + 1)) && isPt (ff (xs.drop t)))) := by
        show okF (xs.drop t) = _
        rw [drop_step (by have := HN.out; omega)]; rfl
      have hx2 : -1000000 ≤ x ∧ x ≤ 1000000 := by
        have := HZ.out t
        rw [← hx]
        exact crd_iff.1 (by simpa [List.getD] using this)
      obtain ⟨P, hPe⟩ : ∃ P, (ff (xs.drop (t + 1))).1 = P := ⟨_, rfl⟩
      obtain ⟨Q, hQe⟩ : ∃ Q, (ff (xs.drop (t + 1))).2 = Q := ⟨_, rfl⟩
      rw [hPe] at hP HS ⊢
      rw [hQe] at hQ HS ⊢
      have hm := mul_bd hx2.1 hx2.2 hP.1 hP.2
      obtain ⟨hm1, hm2⟩ := hm
      obtain ⟨hP1, hP2⟩ := hP
      obtain ⟨hQ1, hQ2⟩ := hQ
      have hcP : crd P = true := crd_iff.2 ⟨hP1, hP2⟩
      have hi2 : (0 : Int) ≤ (t : Int) := by omega
      have hi3 : (t : Int) < (n : Int) := by omega
      clear hx hx2 hPe hQe
      cases hcn : crd (x * P + Q)
      · have HF : Hid (okF xs = false) := by
          show okF xs = false
          cases hokx : okF xs
          · rfl
          · exfalso
            have a := okF_drop t hokx
            rw [HO.out, HS.out] at a
            simp [isPt, hcn] at a
        have HV : Hid (colV xs = .tuple #[.agg #[.int .i64 0, .int .i64 0, .int .i64 0, .int .i64 0], .int .i64 3]) := by show colV xs = _; unfold colV; rw [colC_limit HF.out]; rfl
        go_wp2_with (go_at_call 103; refine (fits_any _ _).mono ?_; rintro e wn ⟨rfl, rfl⟩)
        refine bodyPost_ret (v := .tuple #[.agg #[.int .i64 0, .int .i64 0, .int .i64 0, .int .i64 0], .int .i64 3]) (by simp (maxDischargeDepth := 8) [results, Try.results129, go_sem, *]) rfl ?_
        exact ⟨by rw [HV.out], by (repeat' (first | (with_reducible exact Below.refl _ _) | (with_reducible refine Below.alloc ?_ ?_ _) | (with_reducible refine Below.setCell ?_ ?_ _) | (with_reducible refine Below.drew ?_) | (with_reducible refine below_drewN ?_ _) | (with_reducible assumption) | (with_reducible refine below_after (by with_reducible assumption) ?_) | go_size))⟩
      · have HT : Hid (okF (xs.drop t) = true) := by
          show okF (xs.drop t) = true
          rw [HO.out, HS.out, HK.out]
          simp [isPt, hcn, hcP]
        go_wp2_with (go_at_call 103; refine (fits_any _ _).mono ?_; rintro e wn ⟨rfl, rfl⟩)
        go_round
        case rel => exact ⟨t, by omega, rfl, by rw [HS.out], by rw [HS.out], HT.out⟩
        case measure => simp [intOf]
set_option maxHeartbeats 1600000 in
theorem spec_CornerOfExpansion_any (B0 : Nat) (v : Value) (xs : List Int) (w : World) (h : OwnI B0 w v xs) (hx : xs.length ≤ 1048576) :
    Calls Try.prog 64 #[v] w fun e w' => e = .returned (coeV xs) ∧ Below w.heap.size w w' := by
  have H := Lib.hid h
  obtain ⟨a, cap, rfl, f⟩ := own_view h
  have HB : Hid (∀ W, Below w.heap.size w W → OwnI B0 W (.slice a xs.length cap) xs) := by
    show ∀ W, Below w.heap.size w W → OwnI B0 W (.slice a xs.length cap) xs
    exact fun W hW => H.out.below hW
  have HX := Lib.hid hx
  have HF := Lib.hid f
  clear h f
  by_cases h2 : xs.length % 2 = 0
  · have HV : Hid (coeV xs = .tuple #[.agg #[.int .i64 0, .int .i64 0, .int .i64 0, .int .i64 0], .int .i64 2]) := by
      apply coeV_no; unfold coeB; rw [decide_eq_false (by omega)]; rfl
    rw [HV.out]
    have h2i : (xs.length : Int) % 2 = 0 := by omega
    clear h2
    have hs20 : w.heap.size < w.heap.size + 1 + 1 := (by omega)
    go_enter Try.func64, Try.ntmps64
    go_wp2
    refine bodyPost_ret (v := .tuple #[.agg #[.int .i64 0, .int .i64 0, .int .i64 0, .int .i64 0], .int .i64 2]) (by simp (maxDischargeDepth := 8) [results, Try.results64, go_sem, *]) rfl ?_
    exact ⟨rfl, by (repeat' (first | (with_reducible exact Below.refl _ _) | (with_reducible refine Below.alloc ?_ ?_ _) | (with_reducible refine Below.setCell ?_ ?_ _) | (with_reducible refine Below.drew ?_) | (with_reducible refine below_drewN ?_ _) | (with_reducible assumption) | (with_reducible refine below_after (by with_reducible assumption) ?_) | go_size))⟩
  · have h2i : ((xs.length : Int) % 2 == 0) = false := by
      cases hq : ((xs.length : Int) % 2 == 0)
      · rfl
      · simp only [beq_iff_eq] at hq; omega
    have h2j : ¬ (xs.length : Int) % 2 = 0 := by omega
    by_cases h60 : 60 < xs.length
    · have HV : Hid (coeV xs = .tuple #[.agg #[.int .i64 0, .int .i64 0, .int .i64 0, .int .i64 0], .int .i64 2]) := by
        apply coeV_no; unfold coeB; rw [decide_eq_false (show ¬ xs.length ≤ 60 by omega), Bool.and_false]; rfl
      rw [HV.out]
      have h60i : (60 : Int) < (xs.length : Int) := by omega
      clear h2 h60
      have hs20 : w.heap.size < w.heap.size + 1 + 1 := (by omega)
      go_enter Try.func64, Try.ntmps64
      go_wp2
      refine bodyPost_ret (v := .tuple #[.agg #[.int .i64 0, .int .i64 0, .int .i64 0, .int .i64 0], .int .i64 2]) (by simp (maxDischargeDepth := 8) [results, Try.results64, go_sem, *]) rfl ?_
      exact ⟨rfl, by (repeat' (first | (with_reducible exact Below.refl _ _) | (with_reducible refine Below.alloc ?_ ?_ _) | (with_reducible refine Below.setCell ?_ ?_ _) | (with_reducible refine Below.drew ?_) | (with_reducible refine below_drewN ?_ _) | (with_reducible assumption) | (with_reducible refine below_after (by with_reducible assumption) ?_) | go_size))⟩
    · have h60i : decide ((60 : Int) < (xs.length : Int)) = false := by simp; omega
      have HL : Hid (1 ≤ xs.length) := by show 1 ≤ xs.length; omega
      have HE : Hid (coeB xs = allC xs xs.length) := by
        show coeB xs = allC xs xs.length
        unfold coeB; rw [decide_eq_true (by omega), decide_eq_true (by omega)]; rfl
      obtain ⟨g, rfl, _, hg, hc, _⟩ := HF.out (by omega)
      have HC := Lib.hid hc
      have hgne : g ≠ w.heap.size := by omega
      obtain ⟨n, hn⟩ : ∃ n, xs.length = n := ⟨_, rfl⟩
      have HN := Lib.hid hn
      have hi8 : (n : Int) ≤ 60 := by omega
      rw [hn] at h2i h2j h60i ⊢
      clear hc h2 h60 hn hx HF
      have hs20 : w.heap.size < w.heap.size + 1 + 1 := (by omega)
      go_enter Try.func64, Try.ntmps64
      go_wp2
      go_loop [4] (fun i => ∃ k : Nat, k ≤ n ∧ i = .int .i64 k ∧ allC xs k = true) (fun i => n - (intOf i).toNat)
      case atStart => exact ⟨0, by omega, rfl, rfl⟩
      case round =>
        obtain ⟨k, hk, rfl, hels⟩ := hrel
        have HK := Lib.hid hels
        clear hels
        by_cases hlt : k < n
        · have e1 := HC.out k (by rw [HN.out]; exact hlt)
          obtain ⟨x, hx0⟩ : ∃ x, xs.getD k 0 = x := ⟨_, rfl⟩
          rw [hx0] at e1
          have HX0 := Lib.hid hx0
          clear hx0
          cases hcr : crd x
          · have HV : Hid (coeV xs = .tuple #[.agg #[.int .i64 0, .int .i64 0, .int .i64 0, .int .i64 0], .int .i64 2]) := by
              apply coeV_no; rw [HE.out, HN.out]
              exact allC_no hlt (by rw [HX0.out]; exact hcr)
            go_wp2_with (go_at_call 103; refine (fits_any _ _).mono ?_; rintro e wn ⟨rfl, rfl⟩)
            refine bodyPost_ret (v := .tuple #[.agg #[.int .i64 0, .int .i64 0, .int .i64 0, .int .i64 0], .int .i64 2]) (by simp (maxDischargeDepth := 8) [results, Try.results64, go_sem, *]) rfl ?_
            exact ⟨by rw [HV.out], by (repeat' (first | (with_reducible exact Below.refl _ _) | (with_reducible refine Below.alloc ?_ ?_ _) | (with_reducible refine Below.setCell ?_ ?_ _) | (with_reducible refine Below.drew ?_) | (with_reducible refine below_drewN ?_ _) | (with_reducible assumption) | (with_reducible refine below_after (by with_reducible assumption) ?_) | go_size))⟩
          · have HT : Hid (allC xs (k + 1) = true) := by
              show allC xs (k + 1) = true
              unfold allC
              rw [HK.out, HX0.out, hcr]; rfl
            go_wp2_with (go_at_call 103; refine (fits_any _ _).mono ?_; rintro e wn ⟨rfl, rfl⟩)
            go_round
            case rel => exact ⟨k + 1, by omega, by go_num, HT.out⟩
            case measure => simp [intOf]; omega
        · have hge : n ≤ k := by omega
          have ha : allC xs xs.length = true := by
            have := HK.out
            rwa [show k = n from by omega, ← HN.out] at this
          have HV : Hid (coeV xs = colV xs) := by apply coeV_yes; rw [HE.out]; exact ha
          have HZ := Lib.hid (allC_get ha)
          have HB2 : Hid (∀ W, Below w.heap.size w W → OwnI B0 W (.slice (some ⟨g, 0, none⟩) n cap) xs) := by
            show ∀ W, Below w.heap.size w W → OwnI B0 W (.slice (some ⟨g, 0, none⟩) n cap) xs
            rw [← HN.out]; exact HB.out
          clear hlt ha
          go_wp2_with (first | (go_at_call 129; refine (l02OfList_any _ _ _ _ (HB2.out _ (by (repeat' (first | (with_reducible exact Below.refl _ _) | (with_reducible refine Below.alloc ?_ ?_ _) | (with_reducible refine Below.setCell ?_ ?_ _) | (with_reducible refine Below.drew ?_) | (with_reducible refine below_drewN ?_ _) | (with_reducible assumption) | (with_reducible refine below_after (by with_reducible assumption) ?_) | go_size)))) HL.out HX.out HZ.out).mono ?_; unfold colV; rintro e wn ⟨rfl, hb⟩; obtain ⟨hcl, hfr, hlt, hsz⟩ := after_call hb; (try simp only [World.size_alloc, World.size_setCell, World.size_drew] at hcl hfr hlt hsz)))
          refine bodyPost_ret (v := .tuple #[.agg #[.int .i64 (oni (colC xs) 1), .int .i64 0, .int .i64 (oni (colC xs) (ff xs).2), .int .i64 (oni (colC xs) (ff xs).1)], .int .i64 (colC xs)]) (by simp (maxDischargeDepth := 8) [results, Try.results64, go_sem, *]) rfl ?_
          exact ⟨by rw [HV.out]; rfl, by (repeat' (first | (with_reducible exact Below.refl _ _) | (with_reducible refine Below.alloc ?_ ?_ _) | (with_reducible refine Below.setCell ?_ ?_ _) | (with_reducible refine Below.drew ?_) | (with_reducible refine below_drewN ?_ _) | (with_reducible assumption) | (with_reducible refine below_after (by with_reducible assumption) ?_) | go_size))⟩
end Go.Proofs.Ytoenlpkphekbnaa
