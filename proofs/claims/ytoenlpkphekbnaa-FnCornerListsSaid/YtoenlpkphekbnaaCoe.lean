/-
  Contracts of chapter 2's CornerOfExpansion, in the program and in the model (own work).
-/
import Derived.Test.YtoenlpkphekbnaaFold
import Derived.Test.YtoenlpkphekbnaaCor3
namespace Go.Proofs.Ytoenlpkphekbnaa
open Go.ChangeShapes Go.WideShapes Go.ChangeAt Go.RowKit
set_option linter.unusedVariables false
set_option maxRecDepth 100000
set_option linter.unusedSimpArgs false

/-- The first n numbers fit. -/
def allC (xs : List Int) : Nat → Bool
  | 0 => true
  | n + 1 => allC xs n && crd (xs.getD n 0)
theorem allC_at {xs : List Int} : ∀ {n k : Nat}, allC xs n = true → k < n → crd (xs.getD k 0) = true
  | n + 1, k, h, hk => by
    unfold allC at h
    simp only [Bool.and_eq_true] at h
    by_cases hkn : k = n
    · rw [hkn]; exact h.2
    · exact allC_at h.1 (by omega)
theorem allC_no {xs : List Int} : ∀ {n k : Nat}, k < n → crd (xs.getD k 0) = false → allC xs n = false
  | n + 1, k, hk, h => by
    unfold allC
    by_cases hkn : k = n
    · rw [hkn] at h; rw [h, Bool.and_false]
    · rw [allC_no (by omega) h, Bool.false_and]
theorem allC_get {xs : List Int} (h : allC xs xs.length = true) (i : Nat) : crd (xs[i]?.getD 0) = true := by
  by_cases hi : i < xs.length
  · have := allC_at h hi
    simpa [List.getD] using this
  · rw [List.getElem?_eq_none (by omega)]; rfl

/-- The corner of a list: its code. -/
def colC (xs : List Int) : Int := if okF xs = true then (if (ff xs).1 = 0 then 5 else 0) else 3
theorem colC_limit {xs : List Int} (h : okF xs = false) : colC xs = 3 := by unfold colC; rw [h]; rfl
theorem colC_state {xs : List Int} (h : okF xs = true) (k : (ff xs).1 = 0) : colC xs = 5 := by unfold colC; rw [if_pos h, if_pos k]
theorem colC_yes {xs : List Int} (h : okF xs = true) (k : ¬ (ff xs).1 = 0) : colC xs = 0 := by unfold colC; rw [if_pos h, if_neg k]

set_option maxHeartbeats 800000 in
theorem areCoords_any (B : Nat) (v : Value) (xs : List Int) (w : World) (h : OwnI B w v xs) (hx : xs.length ≤ 1048576) :
    Calls Try.prog 127 #[v] w fun e w' => e = .returned (.bool (allC xs xs.length)) ∧ w = w' := by
  obtain ⟨a, cap, rfl, f⟩ := own_view h
  obtain ⟨n, hn⟩ : ∃ n, xs.length = n := ⟨_, rfl⟩
  rw [hn] at hx f ⊢
  clear h
  by_cases h0 : n = 0
  · subst h0
    clear f hn
    go_enter Try.func127, Try.ntmps127
    go_wp2
    refine wp_loop_rounds 1 ?_
    rw [rounds_succ]
    go_wp2
    go_ret
    exact ⟨rfl, rfl⟩
  · obtain ⟨g, rfl, _, hg, hc, _⟩ := f (by omega)
    have HC := Lib.hid hc
    clear f hn hc h0
    go_enter Try.func127, Try.ntmps127
    go_wp2
    go_loop [7] (fun i => ∃ k : Nat, k ≤ n ∧ i = .int .i64 k ∧ allC xs k = true) (fun i => n - (intOf i).toNat)
    case atStart => exact ⟨0, by omega, rfl, rfl⟩
    case round =>
      obtain ⟨k, hk, rfl, hels⟩ := hrel
      have HK := Lib.hid hels
      clear hels
      by_cases hlt : k < n
      · have e1 := HC.out k hlt
        obtain ⟨x, hx0⟩ : ∃ x, xs.getD k 0 = x := ⟨_, rfl⟩
        rw [hx0] at e1
        have HX := Lib.hid hx0
        clear hx0
        cases hcr : crd x
        · have HF : Hid (allC xs n = false) := by
            show allC xs n = false
            exact allC_no hlt (by rw [HX.out]; exact hcr)
          go_wp2_with (go_at_call 101; refine (isCoord_any _ _).mono ?_; rintro e wn ⟨rfl, rfl⟩)
          go_ret
          exact ⟨by rw [HF.out]; rfl, rfl⟩
        · have HT : Hid (allC xs (k + 1) = true) := by
            show allC xs (k + 1) = true
            unfold allC
            rw [HK.out, HX.out, hcr]; rfl
          go_wp2_with (go_at_call 101; refine (isCoord_any _ _).mono ?_; rintro e wn ⟨rfl, rfl⟩)
          go_round
          case rel => exact ⟨k + 1, by omega, by go_num, HT.out⟩
          case measure => simp [intOf]; omega
      · have hge : n ≤ k := by omega
        have HT : Hid (allC xs n = true) := by
          show allC xs n = true
          have := HK.out
          rwa [show k = n from by omega] at this
        clear hlt
        go_wp2
        go_ret
        exact ⟨by rw [HT.out]; rfl, rfl⟩
/-- What the corner of a list is, with its code. -/
def colV (xs : List Int) : Value := .tuple #[.agg #[.int .i64 (oni (colC xs) 1), .int .i64 0, .int .i64 (oni (colC xs) (ff xs).2), .int .i64 (oni (colC xs) (ff xs).1)], .int .i64 (colC xs)]
set_option maxHeartbeats 1600000 in
theorem cornerOfList_any (B0 : Nat) (v : Value) (xs : List Int) (w : World) (h : OwnI B0 w v xs) (hl : 1 ≤ xs.length) (hx : xs.length ≤ 1048576) (hz : ∀ i : Nat, crd (xs[i]?.getD 0) = true) :
    Calls Try.prog 128 #[v] w fun e w' => e = .returned (colV xs) ∧ Below w.heap.size w w' := by
  have HO := fun B w (h : OwnI B w v xs) => foldList_any B v xs w h hl hx hz
  have HF := Lib.hid HO
  have H := Lib.hid h
  obtain ⟨a, cap, rfl, f⟩ := own_view h
  clear h f HO
  have HB : Hid (∀ W, Below w.heap.size w W → OwnI B0 W (.slice a xs.length cap) xs) := by
    show ∀ W, Below w.heap.size w W → OwnI B0 W (.slice a xs.length cap) xs
    exact fun W hW => H.out.below hW
  clear hl hx hz
  cases hok : okF xs
  · have HA : Hid (fA xs = 0 ∧ fB xs = 0 ∧ fC xs = 3) := by show fA xs = 0 ∧ fB xs = 0 ∧ fC xs = 3; unfold fA fB fC; rw [hok]; exact ⟨rfl, rfl, rfl⟩
    have HV : Hid (colV xs = .tuple #[.agg #[.int .i64 0, .int .i64 0, .int .i64 0, .int .i64 0], .int .i64 3]) := by show colV xs = _; unfold colV; rw [colC_limit hok]; rfl
    rw [HV.out]
    clear hok
    have hs20 : w.heap.size < w.heap.size + 1 + 1 := (by omega); have hs30 : w.heap.size < w.heap.size + 1 + 1 + 1 := (by omega); have hs31 : w.heap.size + 1 < w.heap.size + 1 + 1 + 1 := (by omega)
    go_enter Try.func128, Try.ntmps128
    go_wp2_with (first | (go_at_call 141; refine (HF.out _ _ (HB.out _ (by (repeat' (first | (with_reducible exact Below.refl _ _) | (with_reducible refine Below.alloc ?_ ?_ _) | (with_reducible refine Below.setCell ?_ ?_ _) | (with_reducible refine Below.drew ?_) | (with_reducible refine below_drewN ?_ _) | (with_reducible assumption) | (with_reducible refine below_after (by with_reducible assumption) ?_) | go_size))))).mono ?_; rw [HA.out.1, HA.out.2.1, HA.out.2.2]; rintro e wn ⟨rfl, hb⟩; obtain ⟨hcl, hfr, hlt, hsz⟩ := after_call hb; (try simp only [World.size_alloc, World.size_setCell, World.size_drew] at hcl hfr hlt hsz)))
    refine bodyPost_ret (v := .tuple #[.agg #[.int .i64 0, .int .i64 0, .int .i64 0, .int .i64 0], .int .i64 3]) (by simp (maxDischargeDepth := 8) [results, Try.results128, go_sem, *]) rfl ?_
    exact ⟨rfl, by (repeat' (first | (with_reducible exact Below.refl _ _) | (with_reducible refine Below.alloc ?_ ?_ _) | (with_reducible refine Below.setCell ?_ ?_ _) | (with_reducible refine Below.drew ?_) | (with_reducible refine below_drewN ?_ _) | (with_reducible assumption) | (with_reducible refine below_after (by with_reducible assumption) ?_) | go_size))⟩
  · have HA : Hid (fA xs = (ff xs).1 ∧ fB xs = (ff xs).2 ∧ fC xs = 0) := by show fA xs = (ff xs).1 ∧ fB xs = (ff xs).2 ∧ fC xs = 0; unfold fA fB fC; rw [hok]; exact ⟨rfl, rfl, rfl⟩
    by_cases h0 : (ff xs).1 = 0
    · have HV : Hid (colV xs = .tuple #[.agg #[.int .i64 0, .int .i64 0, .int .i64 0, .int .i64 0], .int .i64 5]) := by show colV xs = _; unfold colV; rw [colC_state hok h0]; rfl
      have HA2 : Hid (fA xs = 0 ∧ fB xs = (ff xs).2 ∧ fC xs = 0) := by show fA xs = 0 ∧ fB xs = (ff xs).2 ∧ fC xs = 0; exact ⟨HA.out.1.trans h0, HA.out.2⟩
      rw [HV.out]
      clear hok h0
      have hs20 : w.heap.size < w.heap.size + 1 + 1 := (by omega); have hs30 : w.heap.size < w.heap.size + 1 + 1 + 1 := (by omega); have hs31 : w.heap.size + 1 < w.heap.size + 1 + 1 + 1 := (by omega)
      go_enter Try.func128, Try.ntmps128
      go_wp2_with (first | (go_at_call 141; refine (HF.out _ _ (HB.out _ (by (repeat' (first | (with_reducible exact Below.refl _ _) | (with_reducible refine Below.alloc ?_ ?_ _) | (with_reducible refine Below.setCell ?_ ?_ _) | (with_reducible refine Below.drew ?_) | (with_reducible refine below_drewN ?_ _) | (with_reducible assumption) | (with_reducible refine below_after (by with_reducible assumption) ?_) | go_size))))).mono ?_; rw [HA2.out.1, HA2.out.2.1, HA2.out.2.2]; rintro e wn ⟨rfl, hb⟩; obtain ⟨hcl, hfr, hlt, hsz⟩ := after_call hb; (try simp only [World.size_alloc, World.size_setCell, World.size_drew] at hcl hfr hlt hsz)))
      refine bodyPost_ret (v := .tuple #[.agg #[.int .i64 0, .int .i64 0, .int .i64 0, .int .i64 0], .int .i64 5]) (by simp (maxDischargeDepth := 8) [results, Try.results128, go_sem, *]) rfl ?_
      exact ⟨rfl, by (repeat' (first | (with_reducible exact Below.refl _ _) | (with_reducible refine Below.alloc ?_ ?_ _) | (with_reducible refine Below.setCell ?_ ?_ _) | (with_reducible refine Below.drew ?_) | (with_reducible refine below_drewN ?_ _) | (with_reducible assumption) | (with_reducible refine below_after (by with_reducible assumption) ?_) | go_size))⟩
    · have HV : Hid (colV xs = .tuple #[.agg #[.int .i64 1, .int .i64 0, .int .i64 (ff xs).2, .int .i64 (ff xs).1], .int .i64 0]) := by show colV xs = _; unfold colV; rw [colC_yes hok h0]; rfl
      rw [HV.out]
      obtain ⟨P, hP⟩ : ∃ P, (ff xs).1 = P := ⟨_, rfl⟩
      rw [hP] at h0 ⊢
      have h0b : (P == 0) = false := by simpa using h0
      have HA2 : Hid (fA xs = P ∧ fB xs = (ff xs).2 ∧ fC xs = 0) := by show fA xs = P ∧ fB xs = (ff xs).2 ∧ fC xs = 0; exact ⟨HA.out.1.trans hP, HA.out.2⟩
      clear hok h0 hP
      have hs20 : w.heap.size < w.heap.size + 1 + 1 := (by omega); have hs30 : w.heap.size < w.heap.size + 1 + 1 + 1 := (by omega); have hs31 : w.heap.size + 1 < w.heap.size + 1 + 1 + 1 := (by omega)
      go_enter Try.func128, Try.ntmps128
      go_wp2_with (first | (go_at_call 141; refine (HF.out _ _ (HB.out _ (by (repeat' (first | (with_reducible exact Below.refl _ _) | (with_reducible refine Below.alloc ?_ ?_ _) | (with_reducible refine Below.setCell ?_ ?_ _) | (with_reducible refine Below.drew ?_) | (with_reducible refine below_drewN ?_ _) | (with_reducible assumption) | (with_reducible refine below_after (by with_reducible assumption) ?_) | go_size))))).mono ?_; rw [HA2.out.1, HA2.out.2.1, HA2.out.2.2]; rintro e wn ⟨rfl, hb⟩; obtain ⟨hcl, hfr, hlt, hsz⟩ := after_call hb; (try simp only [World.size_alloc, World.size_setCell, World.size_drew] at hcl hfr hlt hsz)) | (go_at_call 130; refine (cornerFromAxis_any _ _ _).mono ?_; rintro e wn ⟨rfl, hb⟩; first | (have h2 := after_call2 hb hcl hfr hlt (by ((repeat' (first | (with_reducible exact Below.refl _ _) | (with_reducible refine Below.alloc ?_ ?_ _) | (with_reducible refine Below.setCell ?_ ?_ _) | (with_reducible refine Below.drew ?_) | (with_reducible refine below_drewN ?_ _) | (with_reducible assumption) | (with_reducible refine below_after (by with_reducible assumption) ?_) | go_size)); done)); obtain ⟨hclx, hfrx, hltx, hsz⟩ := after_call hb; (try simp only [World.size_alloc, World.size_setCell, World.size_drew] at hclx hfrx hltx hsz); (try (have hszl := Nat.lt_of_succ_le hsz)); obtain ⟨hcl, hfr, hlt⟩ := h2) | (obtain ⟨hcl, hfr, hlt, hsz⟩ := after_call hb; (try simp only [World.size_alloc, World.size_setCell, World.size_drew] at hcl hfr hlt hsz))))
      refine bodyPost_ret (v := .tuple #[.agg #[.int .i64 1, .int .i64 0, .int .i64 (ff xs).2, .int .i64 P], .int .i64 0]) (by simp (maxDischargeDepth := 8) [results, Try.results128, go_sem, *]) rfl ?_
      exact ⟨rfl, by (repeat' (first | (with_reducible exact Below.refl _ _) | (with_reducible refine Below.alloc ?_ ?_ _) | (with_reducible refine Below.setCell ?_ ?_ _) | (with_reducible refine Below.drew ?_) | (with_reducible refine below_drewN ?_ _) | (with_reducible assumption) | (with_reducible refine below_after (by with_reducible assumption) ?_) | go_size))⟩
/-- Whether the list is as told. -/
def coeB (xs : List Int) : Bool := decide (xs.length % 2 = 1) && decide (xs.length ≤ 60) && allC xs xs.length
def coeV (xs : List Int) : Value := bif coeB xs then colV xs else .tuple #[.agg #[.int .i64 0, .int .i64 0, .int .i64 0, .int .i64 0], .int .i64 2]
theorem coeV_no {xs : List Int} (h : coeB xs = false) : coeV xs = .tuple #[.agg #[.int .i64 0, .int .i64 0, .int .i64 0, .int .i64 0], .int .i64 2] := by unfold coeV; rw [h]; rfl
theorem coeV_yes {xs : List Int} (h : coeB xs = true) : coeV xs = colV xs := by unfold coeV; rw [h]; rfl
set_option maxHeartbeats 1600000 in
theorem impl_CornerOfExpansion_any (B0 : Nat) (v : Value) (xs : List Int) (w : World) (h : OwnI B0 w v xs) (hx : xs.length ≤ 1048576) :
    Calls Try.prog 63 #[v] w fun e w' => e = .returned (coeV xs) ∧ Below w.heap.size w w' := by
  have H := Lib.hid h
  obtain ⟨a, cap, rfl, f⟩ := own_view h
  clear h f
  have HB : Hid (∀ W, Below w.heap.size w W → OwnI B0 W (.slice a xs.length cap) xs) := by
    show ∀ W, Below w.heap.size w W → OwnI B0 W (.slice a xs.length cap) xs
    exact fun W hW => H.out.below hW
  have HX := Lib.hid hx
  by_cases h2 : xs.length % 2 = 0
  · have HV : Hid (coeV xs = .tuple #[.agg #[.int .i64 0, .int .i64 0, .int .i64 0, .int .i64 0], .int .i64 2]) := by
      apply coeV_no; unfold coeB; rw [decide_eq_false (by omega)]; rfl
    rw [HV.out]
    have h2i : (xs.length : Int) % 2 = 0 := by omega
    clear h2
    have hs20 : w.heap.size < w.heap.size + 1 + 1 := (by omega)
    go_enter Try.func63, Try.ntmps63
    go_wp2
    refine bodyPost_ret (v := .tuple #[.agg #[.int .i64 0, .int .i64 0, .int .i64 0, .int .i64 0], .int .i64 2]) (by simp (maxDischargeDepth := 8) [results, Try.results63, go_sem, *]) rfl ?_
    exact ⟨rfl, by (repeat' (first | (with_reducible exact Below.refl _ _) | (with_reducible refine Below.alloc ?_ ?_ _) | (with_reducible refine Below.setCell ?_ ?_ _) | (with_reducible refine Below.drew ?_) | (with_reducible refine below_drewN ?_ _) | (with_reducible assumption) | (with_reducible refine below_after (by with_reducible assumption) ?_) | go_size))⟩
  · have h2i : ((xs.length : Int) % 2 == 0) = false := by
      cases hq : ((xs.length : Int) % 2 == 0)
      · rfl
      · simp only [beq_iff_eq] at hq; omega
    have h2j : ¬ (xs.length : Int) % 2 = 0 := by omega
    by_cases h60 : 60 < xs.length
    · have HV : Hid (coeV xs = .tuple #[.agg #[.int .i64 0, .int .i64 0, .int .i64 0, .int .i64 0], .int .i64 2]) := by
        apply coeV_no; unfold coeB; rw [decide_eq_false (show ¬ xs.length ≤ 60 by omega), Bool.and_false]; rfl
      rw [HV.out]
      have h60i : (60 : Int) < (xs.length : Int) := by omega
      clear h2 h60
      have hs20 : w.heap.size < w.heap.size + 1 + 1 := (by omega)
      go_enter Try.func63, Try.ntmps63
      go_wp2
      refine bodyPost_ret (v := .tuple #[.agg #[.int .i64 0, .int .i64 0, .int .i64 0, .int .i64 0], .int .i64 2]) (by simp (maxDischargeDepth := 8) [results, Try.results63, go_sem, *]) rfl ?_
      exact ⟨rfl, by (repeat' (first | (with_reducible exact Below.refl _ _) | (with_reducible refine Below.alloc ?_ ?_ _) | (with_reducible refine Below.setCell ?_ ?_ _) | (with_reducible refine Below.drew ?_) | (with_reducible refine below_drewN ?_ _) | (with_reducible assumption) | (with_reducible refine below_after (by with_reducible assumption) ?_) | go_size))⟩
    · have h60i : decide ((60 : Int) < (xs.length : Int)) = false := by simp; omega
      cases ha : allC xs xs.length
      · have HV : Hid (coeV xs = .tuple #[.agg #[.int .i64 0, .int .i64 0, .int .i64 0, .int .i64 0], .int .i64 2]) := by
          apply coeV_no; unfold coeB; rw [ha, Bool.and_false]
        rw [HV.out]
        clear h2 h60
        have hs20 : w.heap.size < w.heap.size + 1 + 1 := (by omega)
        go_enter Try.func63, Try.ntmps63
        go_wp2_with (first | (go_at_call 127; refine (areCoords_any _ _ _ _ (HB.out _ (by (repeat' (first | (with_reducible exact Below.refl _ _) | (with_reducible refine Below.alloc ?_ ?_ _) | (with_reducible refine Below.setCell ?_ ?_ _) | (with_reducible refine Below.drew ?_) | (with_reducible refine below_drewN ?_ _) | (with_reducible assumption) | (with_reducible refine below_after (by with_reducible assumption) ?_) | go_size)))) HX.out).mono ?_; rintro e wn ⟨rfl, rfl⟩))
        refine bodyPost_ret (v := .tuple #[.agg #[.int .i64 0, .int .i64 0, .int .i64 0, .int .i64 0], .int .i64 2]) (by simp (maxDischargeDepth := 8) [results, Try.results63, go_sem, *]) rfl ?_
        exact ⟨rfl, by (repeat' (first | (with_reducible exact Below.refl _ _) | (with_reducible refine Below.alloc ?_ ?_ _) | (with_reducible refine Below.setCell ?_ ?_ _) | (with_reducible refine Below.drew ?_) | (with_reducible refine below_drewN ?_ _) | (with_reducible assumption) | (with_reducible refine below_after (by with_reducible assumption) ?_) | go_size))⟩
      · have HV : Hid (coeV xs = colV xs) := by
          apply coeV_yes; unfold coeB; rw [ha, decide_eq_true (by omega), decide_eq_true (by omega)]; rfl
        rw [HV.out]
        have HZ := Lib.hid (allC_get ha)
        have HL : Hid (1 ≤ xs.length) := by show 1 ≤ xs.length; omega
        clear h2 h60
        unfold colV
        have hs20 : w.heap.size < w.heap.size + 1 + 1 := (by omega)
        go_enter Try.func63, Try.ntmps63
        go_wp2_with (first | (go_at_call 127; refine (areCoords_any _ _ _ _ (HB.out _ (by (repeat' (first | (with_reducible exact Below.refl _ _) | (with_reducible refine Below.alloc ?_ ?_ _) | (with_reducible refine Below.setCell ?_ ?_ _) | (with_reducible refine Below.drew ?_) | (with_reducible refine below_drewN ?_ _) | (with_reducible assumption) | (with_reducible refine below_after (by with_reducible assumption) ?_) | go_size)))) HX.out).mono ?_; rintro e wn ⟨rfl, rfl⟩) | (go_at_call 128; refine (cornerOfList_any _ _ _ _ (HB.out _ (by (repeat' (first | (with_reducible exact Below.refl _ _) | (with_reducible refine Below.alloc ?_ ?_ _) | (with_reducible refine Below.setCell ?_ ?_ _) | (with_reducible refine Below.drew ?_) | (with_reducible refine below_drewN ?_ _) | (with_reducible assumption) | (with_reducible refine below_after (by with_reducible assumption) ?_) | go_size)))) HL.out HX.out HZ.out).mono ?_; unfold colV; rintro e wn ⟨rfl, hb⟩; obtain ⟨hcl, hfr, hlt, hsz⟩ := after_call hb; (try simp only [World.size_alloc, World.size_setCell, World.size_drew] at hcl hfr hlt hsz)))
        refine bodyPost_ret (v := .tuple #[.agg #[.int .i64 (oni (colC xs) 1), .int .i64 0, .int .i64 (oni (colC xs) (ff xs).2), .int .i64 (oni (colC xs) (ff xs).1)], .int .i64 (colC xs)]) (by simp (maxDischargeDepth := 8) [results, Try.results63, go_sem, *]) rfl ?_
        exact ⟨rfl, by (repeat' (first | (with_reducible exact Below.refl _ _) | (with_reducible refine Below.alloc ?_ ?_ _) | (with_reducible refine Below.setCell ?_ ?_ _) | (with_reducible refine Below.drew ?_) | (with_reducible refine below_drewN ?_ _) | (with_reducible assumption) | (with_reducible refine below_after (by with_reducible assumption) ?_) | go_size))⟩
end Go.Proofs.Ytoenlpkphekbnaa
