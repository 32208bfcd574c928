/-
  Contracts of chapter 1's FractionOf, in the model and in the program (own work).
-/
import Derived.Test.YtfnnieohmdmgkaaRow
import Derived.Test.YtfnnieohmdmgkaaAlg2
namespace Go.Proofs.Ytfnnieohmdmgkaa
open Go.ChangeShapes Go.WideShapes Go.ChangeAt Go.RowKit
set_option linter.unusedVariables false
set_option linter.unusedSimpArgs false

/-- Element k of a list as chapter 1 asks: a number that fits, and at least 1 behind the first one. -/
def elB (xs : List Int) (k : Nat) : Bool := crd (xs.getD k 0) && (decide (k = 0) || decide (1 ≤ xs.getD k 0))
/-- All elements so, up to n. -/
def elsB (xs : List Int) : Nat → Bool
  | 0 => true
  | n + 1 => elsB xs n && elB xs n
def expB (xs : List Int) : Bool := decide (1 ≤ xs.length) && decide (xs.length ≤ 60) && elsB xs xs.length
theorem elsB_at {xs : List Int} : ∀ {n k : Nat}, elsB xs n = true → k < n → elB xs k = true
  | n + 1, k, h, hk => by
    unfold elsB at h
    simp only [Bool.and_eq_true] at h
    by_cases hkn : k = n
    · rw [hkn]; exact h.2
    · exact elsB_at h.1 (by omega)
theorem elsB_no {xs : List Int} : ∀ {n k : Nat}, k < n → elB xs k = false → elsB xs n = false
  | n + 1, k, hk, h => by
    unfold elsB
    by_cases hkn : k = n
    · rw [hkn] at h; rw [h, Bool.and_false]
    · rw [elsB_no (by omega) h, Bool.false_and]

set_option maxHeartbeats 800000 in
theorem isExpansion_any (B : Nat) (v : Value) (xs : List Int) (w : World) (h : OwnI B w v xs) (hx : xs.length ≤ 1048576) :
    Calls Try.prog 46 #[v] w fun e w' => e = .returned (.bool (expB xs)) ∧ w = w' := by
  obtain ⟨a, cap, rfl, f⟩ := own_view h
  obtain ⟨n, hn⟩ : ∃ n, xs.length = n := ⟨_, rfl⟩
  have HN := Lib.hid hn
  rw [hn] at hx f ⊢
  clear h
  by_cases h0 : n < 1
  · have HE : Hid (expB xs = false) := by show expB xs = false; unfold expB; rw [HN.out]; simp [h0]; omega
    clear f hn
    go_enter Try.func46, Try.ntmps46
    go_wp2
    go_ret
    exact ⟨by rw [HE.out]; rfl, rfl⟩
  · have h0d : decide ((n : Int) < 1) = false := by simp; omega
    by_cases h60 : 60 < n
    · have HE : Hid (expB xs = false) := by
        show expB xs = false
        unfold expB
        rw [HN.out]
        have : decide (n ≤ 60) = false := by simp; omega
        rw [this]; simp
      clear f hn
      go_enter Try.func46, Try.ntmps46
      go_wp2
      go_ret
      exact ⟨by rw [HE.out]; rfl, rfl⟩
    · have h60d : decide ((60 : Int) < (n : Int)) = false := by simp; omega
      obtain ⟨g, rfl, _, hg, hc, _⟩ := f (by omega)
      have HC := Lib.hid hc
      have HE : Hid (expB xs = elsB xs n) := by
        show expB xs = elsB xs n
        unfold expB
        rw [HN.out]
        have a : decide (1 ≤ n) = true := by simp; omega
        have b : decide (n ≤ 60) = true := by simp; omega
        rw [a, b]; simp
      clear f hn hc
      go_enter Try.func46, Try.ntmps46
      go_wp2
      go_loop [15] (fun i => ∃ k : Nat, k ≤ n ∧ i = .int .i64 k ∧ elsB xs k = true) (fun i => n - (intOf i).toNat)
      case atStart => exact ⟨0, by omega, rfl, rfl⟩
      case round =>
        obtain ⟨k, hk, rfl, hels⟩ := hrel
        have HK := Lib.hid hels
        clear hels
        by_cases hlt : k < n
        · have e1 := HC.out k hlt
          obtain ⟨x, hx0⟩ : ∃ x, xs.getD k 0 = x := ⟨_, rfl⟩
          rw [hx0] at e1
          have HX := Lib.hid hx0
          clear hx0
          have HB : Hid (elB xs k = (crd x && (decide (k = 0) || decide (1 ≤ x)))) := by show elB xs k = _; unfold elB; rw [HX.out]
          cases hcr : crd x
          · have HF : Hid (elB xs k = false) := by show elB xs k = false; rw [HB.out, hcr]; rfl
            go_wp2_with (go_at_call 65; refine (isCoord_any _ _).mono ?_; rintro e wn ⟨rfl, rfl⟩)
            go_ret
            exact ⟨by rw [HE.out, elsB_no hlt HF.out]; rfl, rfl⟩
          · by_cases hk0 : k = 0
            · have hd : decide ((0 : Int) < (k : Int)) = false := by simp; omega
              have HT : Hid (elsB xs (k + 1) = true) := by
                show elsB xs (k + 1) = true
                unfold elsB
                rw [HK.out, HB.out, hcr, decide_eq_true hk0]; rfl
              have hk1 : k ≤ 0 := by omega
              clear hk0
              go_wp2_with (go_at_call 65; refine (isCoord_any _ _).mono ?_; rintro e wn ⟨rfl, rfl⟩)
              go_round
              case rel => exact ⟨k + 1, by omega, by go_num, HT.out⟩
              case measure => simp [intOf]; omega
            · have hd : (0 : Int) < (k : Int) := by omega
              by_cases h1 : x < 1
              · have HF : Hid (elB xs k = false) := by
                  show elB xs k = false
                  rw [HB.out, hcr, decide_eq_false hk0, decide_eq_false (by omega)]; rfl
                clear hk0
                go_wp2_with (go_at_call 65; refine (isCoord_any _ _).mono ?_; rintro e wn ⟨rfl, rfl⟩)
                go_ret
                exact ⟨by rw [HE.out, elsB_no hlt HF.out]; rfl, rfl⟩
              · have h1d : decide (x < 1) = false := by simpa using h1
                have HT : Hid (elsB xs (k + 1) = true) := by
                  show elsB xs (k + 1) = true
                  unfold elsB
                  rw [HK.out, HB.out, hcr, decide_eq_true (show 1 ≤ x by omega)]; simp
                clear hk0
                go_wp2_with (go_at_call 65; refine (isCoord_any _ _).mono ?_; rintro e wn ⟨rfl, rfl⟩)
                go_round
                case rel => exact ⟨k + 1, by omega, by go_num, HT.out⟩
                case measure => simp [intOf]; omega
        · have hge : n ≤ k := by omega
          have HT : Hid (elsB xs n = true) := by
            show elsB xs n = true
            have := HK.out
            rwa [show k = n from by omega] at this
          clear hlt
          go_wp2
          go_ret
          exact ⟨by rw [HE.out, HT.out]; rfl, rfl⟩
set_option maxHeartbeats 800000 in
theorem l01List_any (B : Nat) (v : Value) (xs : List Int) (w : World) (h : OwnI B w v xs) (hx : xs.length ≤ 1048576) :
    Calls Try.prog 44 #[v] w fun e w' => e = .returned (.bool (expB xs)) ∧ w = w' := by
  obtain ⟨a, cap, rfl, f⟩ := own_view h
  obtain ⟨n, hn⟩ : ∃ n, xs.length = n := ⟨_, rfl⟩
  have HN := Lib.hid hn
  rw [hn] at hx f ⊢
  clear h
  by_cases h0 : n = 0
  · have HE : Hid (expB xs = false) := by show expB xs = false; unfold expB; rw [HN.out, h0]; rfl
    subst h0
    clear f hn
    go_enter Try.func44, Try.ntmps44
    go_wp2
    refine wp_loop_rounds 1 ?_
    rw [rounds_succ]
    go_wp2
    go_ret
    exact ⟨by rw [HE.out]; rfl, rfl⟩
  · obtain ⟨g, rfl, _, hg, hc, _⟩ := f (by omega)
    have HC := Lib.hid hc
    have hn1 : (1 : Int) ≤ (n : Int) := by omega
    have HE : Hid (expB xs = (decide (n ≤ 60) && elsB xs n)) := by
      show expB xs = _
      unfold expB
      rw [HN.out]
      have a : decide (1 ≤ n) = true := by simp; omega
      rw [a]; simp
    clear f hn hc
    go_enter Try.func44, Try.ntmps44
    go_wp2
    go_loop [3] (fun i => ∃ k : Nat, k ≤ n ∧ i = .int .i64 k ∧ elsB xs k = true) (fun i => n - (intOf i).toNat)
    case atStart => exact ⟨0, by omega, rfl, rfl⟩
    case round =>
      obtain ⟨k, hk, rfl, hels⟩ := hrel
      have HK := Lib.hid hels
      clear hels
      by_cases hlt : k < n
      · have e1 := HC.out k hlt
        obtain ⟨x, hx0⟩ : ∃ x, xs.getD k 0 = x := ⟨_, rfl⟩
        rw [hx0] at e1
        have HX := Lib.hid hx0
        clear hx0
        have HB : Hid (elB xs k = (crd x && (decide (k = 0) || decide (1 ≤ x)))) := by show elB xs k = _; unfold elB; rw [HX.out]
        cases hcr : crd x
        · have HF : Hid (elB xs k = false) := by show elB xs k = false; rw [HB.out, hcr]; rfl
          go_wp2_with (go_at_call 68; refine (fits_any _ _).mono ?_; rintro e wn ⟨rfl, rfl⟩)
          go_ret
          exact ⟨by rw [HE.out, elsB_no hlt HF.out, Bool.and_false]; rfl, rfl⟩
        · by_cases hk0 : k = 0
          · have hd : decide ((0 : Int) < (k : Int)) = false := by simp; omega
            have HT : Hid (elsB xs (k + 1) = true) := by
              show elsB xs (k + 1) = true
              unfold elsB
              rw [HK.out, HB.out, hcr, decide_eq_true hk0]; rfl
            have hk1 : k ≤ 0 := by omega
            clear hk0
            go_wp2_with (go_at_call 68; refine (fits_any _ _).mono ?_; rintro e wn ⟨rfl, rfl⟩)
            go_round
            case rel => exact ⟨k + 1, by omega, by go_num, HT.out⟩
            case measure => simp [intOf]; omega
          · have hd : (0 : Int) < (k : Int) := by omega
            by_cases h1 : x < 1
            · have HF : Hid (elB xs k = false) := by
                show elB xs k = false
                rw [HB.out, hcr, decide_eq_false hk0, decide_eq_false (by omega)]; rfl
              clear hk0
              go_wp2_with (go_at_call 68; refine (fits_any _ _).mono ?_; rintro e wn ⟨rfl, rfl⟩)
              go_ret
              exact ⟨by rw [HE.out, elsB_no hlt HF.out, Bool.and_false]; rfl, rfl⟩
            · have h1d : decide (x < 1) = false := by simpa using h1
              have HT : Hid (elsB xs (k + 1) = true) := by
                show elsB xs (k + 1) = true
                unfold elsB
                rw [HK.out, HB.out, hcr, decide_eq_true (show 1 ≤ x by omega)]; simp
              clear hk0
              go_wp2_with (go_at_call 68; refine (fits_any _ _).mono ?_; rintro e wn ⟨rfl, rfl⟩)
              go_round
              case rel => exact ⟨k + 1, by omega, by go_num, HT.out⟩
              case measure => simp [intOf]; omega
      · have hge : n ≤ k := by omega
        have HT : Hid (elsB xs n = true) := by
          show elsB xs n = true
          have := HK.out
          rwa [show k = n from by omega] at this
        clear hlt
        by_cases h60 : n ≤ 60
        · have h60d : (n : Int) ≤ 60 := by omega
          go_wp2
          go_ret
          exact ⟨by rw [HE.out, HT.out, decide_eq_true h60]; rfl, rfl⟩
        · have h60d : decide ((n : Int) ≤ 60) = false := by simp; omega
          go_wp2
          go_ret
          exact ⟨by rw [HE.out, decide_eq_false h60]; rfl, rfl⟩
end Go.Proofs.Ytfnnieohmdmgkaa
