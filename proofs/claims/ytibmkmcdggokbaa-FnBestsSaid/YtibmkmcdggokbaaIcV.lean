/-
  IsConvergent, in the program and in the model (own work).
-/
import Derived.Test.YtibmkmcdggokbaaIcI
import Derived.Test.YtibmkmcdggokbaaCvI
import Derived.Test.YtibmkmcdggokbaaBeA
import Derived.Deep.DeepCutAuto
namespace Go.Proofs.Ytibmkmcdggokbaa
open Go.ChangeShapes Go.WideShapes Go.ChangeAt Go.RowKit
set_option linter.unusedVariables false
set_option linter.unusedSimpArgs false
set_option maxRecDepth 100000

def cvL (p q : Int) : List (Int × Int) := cvs (expI p q) (expI p q).length
def icV (p q r s : Int) : Bool := if rtB p q 1 = true then (if rtB r s 1 = true then decide ((r, s) ∈ cvL p q) else false) else false
def icC (p q r s : Int) : Int := if rtB p q 1 = true then (if rtB r s 1 = true then 0 else 2) else 2
theorem rat_rt (p q : Int) : ratB p q = rtB p q 1 := by
  cases h : rtB p q 1 with
  | true => exact ratB_iff.2 (rtB_iff.1 h)
  | false =>
    cases h2 : ratB p q with
    | false => rfl
    | true => rw [rtB_iff.2 (ratB_iff.1 h2)] at h; cases h
theorem cvL_len {p q : Int} (h : rtB p q 1 = true) : (cvL p q).length ≤ 1000001 := by
  have := expI_len p q
  have := (rtB_iff.1 h).2
  unfold cvL
  rw [cvs_len]
  omega
set_option maxHeartbeats 1600000 in
theorem impl_IsConvergent_any (p q r s : Int) (w : World) : Calls Try.prog 16 #[.int .i64 p, .int .i64 q, .int .i64 r, .int .i64 s] w fun e w' => e = .returned (.tuple #[.bool (icV p q r s), .int .i64 (icC p q r s)]) ∧ Below w.heap.size w w' := by
  unfold icV icC
  cases h1 : rtB p q 1
  · have H := Lib.hid (fun w => impl_ConvergentsOf_no p q w (by rw [rat_rt]; exact h1))
    clear h1
    rw [if_neg (by decide), if_neg (by decide)]
    go_enter Try.func16, Try.ntmps16
    go_wp2_with (first | (go_at_call 30; refine (H.out _).mono ?_; rintro e w1 ⟨v, rfl, ho, hb⟩))
    go_ret2
    exact ⟨rfl, hb⟩
  · rw [if_pos rfl, if_pos rfl]
    have H : Hid (∀ w, Calls Try.prog 30 #[.int .i64 p, .int .i64 q] w (RetPC w (cvL p q) 0)) := fun w => impl_ConvergentsOf_yes p q w (by rw [rat_rt]; exact h1)
    have hl := cvL_len h1
    obtain ⟨L, hL⟩ : ∃ L, cvL p q = L := ⟨_, rfl⟩
    rw [hL] at H hl ⊢
    clear hL h1
    cases h2 : rtB r s 1
    · rw [if_neg (by decide), if_neg (by decide)]
      go_enter Try.func16, Try.ntmps16
      go_wp2_with (first | (go_at_call 30; refine (H.out _).mono ?_; rintro e w1 ⟨v, rfl, ho, hb⟩) | (go_at_call 31; refine (isRatio_any _ _ _).mono ?_; rintro e wn ⟨rfl, rfl⟩))
      go_ret2
      exact ⟨rfl, hb⟩
    · rw [if_pos rfl, if_pos rfl]
      go_enter Try.func16, Try.ntmps16
      go_wp2_with (first | (go_at_call 30; refine (H.out _).mono ?_; rintro e w1 ⟨v, rfl, ho, hb⟩; have HO := Lib.hid (containsP_any _ _ L r s w1 ho (by omega)); clear ho) | (go_at_call 31; refine (isRatio_any _ _ _).mono ?_; rintro e wn ⟨rfl, rfl⟩) | (go_at_call 32; refine HO.out.mono ?_; rintro e w2 ⟨rfl, hb2⟩))
      go_ret2
      exact ⟨rfl, below_after hb2 hb⟩
set_option maxHeartbeats 1600000 in
theorem spec_IsConvergent_any (p q r s : Int) (w : World) : Calls Try.prog 17 #[.int .i64 p, .int .i64 q, .int .i64 r, .int .i64 s] w fun e w' => e = .returned (.tuple #[.bool (icV p q r s), .int .i64 (icC p q r s)]) ∧ Below w.heap.size w w' := by
  unfold icV icC
  cases h1 : rtB p q 1
  · rw [if_neg (by decide), if_neg (by decide)]
    go_enter Try.func17, Try.ntmps17
    go_wp2_with (go_at_call 23; refine (l10Ratio_any _ _ _ _).mono ?_; rintro e wn ⟨rfl, rfl⟩)
    go_ret2
    exact ⟨rfl, by (repeat' (first | (with_reducible exact Below.refl _ _) | (with_reducible refine Below.alloc ?_ ?_ _) | (with_reducible refine Below.setCell ?_ ?_ _) | (with_reducible refine Below.drew ?_) | (with_reducible refine below_drewN ?_ _) | (with_reducible assumption) | (with_reducible refine below_after (by with_reducible assumption) ?_) | go_size))⟩
  · rw [if_pos rfl, if_pos rfl]
    cases h2 : rtB r s 1
    · rw [if_neg (by decide), if_neg (by decide)]
      go_enter Try.func17, Try.ntmps17
      go_wp2_with (go_at_call 23; refine (l10Ratio_any _ _ _ _).mono ?_; rintro e wn ⟨rfl, rfl⟩)
      go_ret2
      exact ⟨rfl, by (repeat' (first | (with_reducible exact Below.refl _ _) | (with_reducible refine Below.alloc ?_ ?_ _) | (with_reducible refine Below.setCell ?_ ?_ _) | (with_reducible refine Below.drew ?_) | (with_reducible refine below_drewN ?_ _) | (with_reducible assumption) | (with_reducible refine below_after (by with_reducible assumption) ?_) | go_size))⟩
    · rw [if_pos rfl, if_pos rfl]
      have H : Hid (∀ w, Calls Try.prog 28 #[.int .i64 p, .int .i64 q] w (RetPC w (cvL p q) 0)) := fun w => spec_ConvergentsOf_yes p q w (by rw [rat_rt]; exact h1)
      have hl := cvL_len h1
      obtain ⟨L, hL⟩ : ∃ L, cvL p q = L := ⟨_, rfl⟩
      rw [hL] at H hl ⊢
      clear hL
      go_enter Try.func17, Try.ntmps17
      go_wp2_with (first | (go_at_call 23; refine (l10Ratio_any _ _ _ _).mono ?_; rintro e wn ⟨rfl, rfl⟩) | (go_at_call 28; refine (H.out _).mono ?_; rintro e w1 ⟨v, rfl, ho, hb⟩))
      clear h1 h2
      obtain ⟨va, cap, rfl, f⟩ := own_viewF ho
      clear ho
      have HB : Hid (Below w.heap.size w w1) := hb
      obtain ⟨n, hn⟩ : ∃ n, L.length = n := ⟨_, rfl⟩
      rw [hn] at f hl ⊢
      have HN := Lib.hid hn
      have HFF := Lib.hid f
      clear hb f hn
      go_loopw [12] (fun i wr => ∃ k : Nat, k ≤ n ∧ i = .int .i64 k ∧ (r, s) ∉ L.take k ∧ w1 = wr) (fun i _ => n - (intOf i).toNat)
      case atStart => exact ⟨0, by omega, rfl, by simp, rfl⟩
      case round =>
        obtain ⟨k, hk, rfl, hnot, rfl⟩ := hrel
        have HK := Lib.hid hnot
        clear hnot
        by_cases hlt : k < n
        · obtain ⟨g, rfl, _, hg, hc, _⟩ := HFF.out (by omega)
          obtain ⟨p0, p1⟩ := flat_getD L k
          have e0 := hc (k * 2) (by omega)
          have e1 := hc (k * 2 + 1) (by omega)
          rw [p0] at e0
          rw [p1] at e1
          obtain ⟨y0, y1, hy⟩ : ∃ y0 y1, L.getD k (0, 0) = (y0, y1) := ⟨_, _, rfl⟩
          have HY := Lib.hid hy
          rw [hy] at e0 e1
          dsimp only at e0 e1
          have he := fun w => eq_pt y0 y1 r s w
          simp only [beq_pt y0 y1 r s] at he
          have i0 : (0 : Int) ≤ (k : Int) := by omega
          have i1 : (k : Int) < (n : Int) := by omega
          clear hc p0 p1 hy
          by_cases hq : (y0, y1) = (r, s)
          · simp only [decide_eq_true hq] at he
            have HF : Hid (decide ((r, s) ∈ L) = true) := decide_eq_true (by rw [← hq, ← HY.out]; exact mem_getD (by rw [HN.out]; exact hlt))
            clear hq
            go_wp2_with fail
            go_ret2
            exact ⟨by rw [HF.out]; rfl, HB.out⟩
          · simp only [decide_eq_false hq] at he
            have HF := Lib.hid (take_notP HK.out (by rw [HN.out]; exact hlt) (by rw [HY.out]; exact fun h => hq h.symm))
            clear hq
            go_wp2_with fail
            go_roundw
            case rel => exact ⟨k + 1, by omega, by go_num, by first | exact HF.out | (simpa using HF.out), by first | rfl | trivial⟩
            case measure => simp [intOf]; omega
        · have hge : n ≤ k := by omega
          have HF : Hid (decide ((r, s) ∈ L) = false) := by
            have := HK.out
            rw [List.take_of_length_le (by have := HN.out; omega)] at this
            exact decide_eq_false this
          clear hlt
          go_wp2_with fail
          go_ret2
          exact ⟨by rw [HF.out]; rfl, HB.out⟩
end Go.Proofs.Ytibmkmcdggokbaa
