/-
  Contracts of chapter 1's FractionOf, in the model and in the program: the fold from the last number on (own work).
-/
import Derived.Test.YtibmkmcdggokbaaFrac
namespace Go.Proofs.Ytibmkmcdggokbaa
open Go.ChangeShapes Go.WideShapes Go.ChangeAt Go.RowKit
set_option linter.unusedVariables false
set_option linter.unusedSimpArgs false

def ff : List Int → Int × Int
  | [] => (1, 0)
  | x :: l => (x * (ff l).1 + (ff l).2, (ff l).1)
def okF : List Int → Bool
  | [] => true
  | x :: l => okF l && isPt (ff (x :: l))
theorem okF_drop {xs : List Int} : ∀ t, okF xs = true → okF (xs.drop t) = true := by
  induction xs with
  | nil => intro t h; cases t <;> exact h
  | cons x l ih =>
    intro t h
    cases t with
    | zero => exact h
    | succ t =>
      unfold okF at h
      simp only [Bool.and_eq_true] at h
      exact ih t h.1
theorem drop_step {xs : List Int} {t : Nat} (h : t < xs.length) : xs.drop t = xs.getD t 0 :: xs.drop (t + 1) := by
  rw [List.drop_eq_getElem_cons h]
  simp [List.getD, h]
theorem okF_pt {xs : List Int} {t : Nat} (h : okF (xs.drop t) = true) (ht : t ≤ xs.length) : isPt (ff (xs.drop t)) = true := by
  by_cases hl : t < xs.length
  · rw [drop_step hl] at h ⊢
    unfold okF at h
    simp only [Bool.and_eq_true] at h
    exact h.2
  · rw [List.drop_of_length_le (by omega)]; rfl

set_option maxHeartbeats 800000 in
theorem l01Fold_any (B : Nat) (v : Value) (xs : List Int) (w : World) (h : OwnI B w v xs) (he : expB xs = true) :
    Calls Try.prog 44 #[v] w fun e w' => e = .returned (.tuple #[.int .i64 (bif okF xs then (ff xs).1 else 0), .int .i64 (bif okF xs then (ff xs).2 else 0), .bool (okF xs)]) ∧ w = w' := by
  obtain ⟨a, cap, rfl, f⟩ := own_view h
  have he' := he
  unfold expB at he'
  simp only [Bool.and_eq_true, decide_eq_true_eq] at he'
  obtain ⟨⟨e1, e2⟩, e3⟩ := he'
  obtain ⟨t0, ht0⟩ : ∃ t, xs.length = t + 1 := ⟨xs.length - 1, by omega⟩
  obtain ⟨g, rfl, _, hg, hc, _⟩ := f (by omega)
  have HN := Lib.hid ht0
  have HL := Lib.hid e3
  have HC := Lib.hid hc
  have hlast := hc t0 (by omega)
  obtain ⟨x0, hx0⟩ : ∃ x, xs.getD t0 0 = x := ⟨_, rfl⟩
  rw [hx0] at hlast
  have HX0 := Lib.hid hx0
  have hx1 : Hid (-1000000 ≤ x0 ∧ x0 ≤ 1000000) := by
    have := elsB_at e3 (show t0 < xs.length by omega)
    unfold elB at this
    simp only [Bool.and_eq_true] at this
    rw [← hx0]; exact crd_iff.1 this.1
  have F1 : Hid (ff (xs.drop t0) = (x0, 1)) := by
    show ff (xs.drop t0) = (x0, 1)
    rw [drop_step (by omega), hx0, List.drop_of_length_le (by omega)]
    simp [ff]
  have O1 : Hid (okF (xs.drop t0) = true) := by
    show okF (xs.drop t0) = true
    rw [drop_step (by omega), hx0, List.drop_of_length_le (by omega)]
    unfold okF
    have : ff [x0] = (x0, 1) := by simp [ff]
    rw [this]
    simp [okF, isPt, crd]
    exact hx1.out
  have h60 : t0 ≤ 59 := by omega
  rw [ht0]
  clear h f hc hx0 ht0 e1 e2 e3 he
  have hi0 : (0 : Int) ≤ (t0 : Int) := by omega
  have hi1 : (t0 : Int) < (t0 : Int) + 1 := by omega
  go_enter Try.func44, Try.ntmps44
  go_wp2
  go_loop [5, 6, 7] (fun p q i => ∃ r : Nat, r ≤ t0 ∧ i = .int .i64 ((r : Int) - 1) ∧ p = .int .i64 (ff (xs.drop r)).1 ∧ q = .int .i64 (ff (xs.drop r)).2 ∧ okF (xs.drop r) = true) (fun _ _ i => (intOf i + 1).toNat)
  case atStart => exact ⟨t0, by omega, by go_num, by rw [F1.out], by rw [F1.out], O1.out⟩
  case round =>
    obtain ⟨r, hr, rfl, rfl, rfl, hok⟩ := hrel
    have HK := Lib.hid hok
    have hP := isPt_c1 (x := (ff (xs.drop r)).1) (y := (ff (xs.drop r)).2) (okF_pt hok (by have := HN.out; omega))
    have hQ := isPt_c2 (x := (ff (xs.drop r)).1) (y := (ff (xs.drop r)).2) (okF_pt hok (by have := HN.out; omega))
    clear hok
    cases r with
    | zero =>
      have hd : ((0 : Nat) : Int) - 1 = -1 := rfl
      rw [hd]
      clear hd
      have hk := HK.out
      rw [List.drop_zero] at hk
      have HK2 := Lib.hid hk
      obtain ⟨P, hPe⟩ : ∃ P, (ff (xs.drop 0)).1 = P := ⟨_, rfl⟩
      obtain ⟨Q, hQe⟩ : ∃ Q, (ff (xs.drop 0)).2 = Q := ⟨_, rfl⟩
      rw [hPe] at hP ⊢
      rw [hQe] at hQ ⊢
      have HP := Lib.hid hPe
      have HQ := Lib.hid hQe
      clear hk hPe hQe
      go_wp2
      go_ret3
      refine ⟨?_, rfl⟩
      have e1 := HP.out
      have e2 := HQ.out
      rw [List.drop_zero] at e1 e2
      rw [HK2.out, e1, e2]; rfl
    | succ t =>
      have hd : ((t + 1 : Nat) : Int) - 1 = (t : Int) := by omega
      rw [hd]
      clear hd
      have hc := HC.out t (by have := HN.out; omega)
      obtain ⟨x, hx⟩ : ∃ x, xs.getD t 0 = x := ⟨_, rfl⟩
      rw [hx] at hc
      have HS : Hid (ff (xs.drop t) = (x * (ff (xs.drop (t + 1))).1 + (ff (xs.drop (t + 1))).2, (ff (xs.drop (t + 1))).1)) := by
        show ff (xs.drop t) = _
        rw [drop_step (by have := HN.out; omega), hx]; rfl
      have HO : Hid (okF (xs.drop t) = (okF (xs.drop (t + 1)) && isPt (ff (xs.drop t)))) := by
        show okF (xs.drop t) = _
        rw [drop_step (by have := HN.out; omega)]; rfl
      have hx2 : -1000000 ≤ x ∧ x ≤ 1000000 := by
        have := elsB_at HL.out (show t < xs.length by have := HN.out; omega)
        unfold elB at this
        simp only [Bool.and_eq_true] at this
        rw [← hx]; exact crd_iff.1 this.1
      obtain ⟨P, hPe⟩ : ∃ P, (ff (xs.drop (t + 1))).1 = P := ⟨_, rfl⟩
      obtain ⟨Q, hQe⟩ : ∃ Q, (ff (xs.drop (t + 1))).2 = Q := ⟨_, rfl⟩
      rw [hPe] at hP HS ⊢
      rw [hQe] at hQ HS ⊢
      have hm := mul_bd hx2.1 hx2.2 hP.1 hP.2
      obtain ⟨hm1, hm2⟩ := hm
      obtain ⟨hP1, hP2⟩ := hP
      obtain ⟨hQ1, hQ2⟩ := hQ
      have hcP : crd P = true := crd_iff.2 ⟨hP1, hP2⟩
      have hi2 : (0 : Int) ≤ (t : Int) := by omega
      have hi3 : (t : Int) < (t0 : Int) + 1 := by omega
      clear hx hx2 hPe hQe
      cases hcn : crd (x * P + Q)
      · have HF : Hid (okF xs = false) := by
          show okF xs = false
          cases hokx : okF xs
          · rfl
          · exfalso
            have a := okF_drop t hokx
            rw [HO.out, HS.out] at a
            simp [isPt, hcn] at a
        go_wp2_with (go_at_call 41; refine (fits_any _ _).mono ?_; rintro e wn ⟨rfl, rfl⟩)
        go_ret3
        exact ⟨by rw [HF.out]; rfl, rfl⟩
      · have HT : Hid (okF (xs.drop t) = true) := by
          show okF (xs.drop t) = true
          rw [HO.out, HS.out, HK.out]
          simp [isPt, hcn, hcP]
        go_wp2_with (go_at_call 41; refine (fits_any _ _).mono ?_; rintro e wn ⟨rfl, rfl⟩)
        go_round
        case rel => exact ⟨t, by omega, rfl, by rw [HS.out], by rw [HS.out], HT.out⟩
        case measure => simp [intOf]
end Go.Proofs.Ytibmkmcdggokbaa
