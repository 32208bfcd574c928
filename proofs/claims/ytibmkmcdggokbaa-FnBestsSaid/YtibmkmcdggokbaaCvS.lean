/-
  Contracts of chapter 1's ConvergentsOf in the model (own work).
-/
import Derived.Test.YtibmkmcdggokbaaPtL
import Derived.Test.YtibmkmcdggokbaaCvM
import Derived.Test.YtibmkmcdggokbaaWExpandFraction
namespace Go.Proofs.Ytibmkmcdggokbaa
open Go.ChangeShapes Go.WideShapes Go.ChangeAt Go.RowKit
set_option linter.unusedVariables false
set_option linter.unusedSimpArgs false

theorem own_take {B : Nat} {w : World} {g cap : Nat} {xs : List Int} (h : OwnI B w (.slice (some ⟨g, 0, none⟩) xs.length cap) xs) (n : Nat) (hn : n ≤ xs.length) : OwnI B w (.slice (some ⟨g, 0, none⟩) n cap) (xs.take n) := by
  have hl : (xs.take n).length = n := by rw [List.length_take]; omega
  show World.ownsRow _ _ _ _ _ (xs.take n).length _
  rw [hl]
  rcases h.2 with ⟨h', _⟩ | ⟨g', cap', cur, h', hb, hg, hnc, hcm, hcs, htake⟩
  · simp at h'
  · simp only [Value.slice.injEq, Option.some.injEq, Addr.mk.injEq, and_true, true_and] at h'
    obtain ⟨rfl, rfl⟩ := h'
    refine ⟨by rw [List.length_map, hl]; omega, .inr ⟨g, cap, cur, rfl, hb, hg, by omega, hcm, hcs, ?_⟩⟩
    rw [List.map_take, ← htake, List.take_take]
    congr 1
    omega
set_option maxHeartbeats 800000 in
theorem l01Fold_els (B : Nat) (v : Value) (xs : List Int) (w : World) (h : OwnI B w v xs) (e1 : 1 ≤ xs.length) (e2 : xs.length ≤ 1000001) (e3 : elsB xs xs.length = true) :
    Calls Try.prog 44 #[v] w fun e w' => e = .returned (.tuple #[.int .i64 (bif okF xs then (ff xs).1 else 0), .int .i64 (bif okF xs then (ff xs).2 else 0), .bool (okF xs)]) ∧ w = w' := by
  obtain ⟨a, cap, rfl, f⟩ := own_view h
  obtain ⟨t0, ht0⟩ : ∃ t, xs.length = t + 1 := ⟨xs.length - 1, by omega⟩
  obtain ⟨g, rfl, _, hg, hc, _⟩ := f (by omega)
  have HN := Lib.hid ht0
  have HL := Lib.hid e3
  have HC := Lib.hid hc
  have hlast := hc t0 (by omega)
  obtain ⟨x0, hx0⟩ : ∃ x, xs.getD t0 0 = x := ⟨_, rfl⟩
  rw [hx0] at hlast
  have HX0 := Lib.hid hx0
  have hx1 : Hid (-1000000 ≤ x0 ∧ x0 ≤ 1000000) := by
    have := elsB_at e3 (show t0 < xs.length by omega)
    unfold elB at this
    simp only [Bool.and_eq_true] at this
    rw [← hx0]; exact crd_iff.1 this.1
  have F1 : Hid (ff (xs.drop t0) = (x0, 1)) := by
    show ff (xs.drop t0) = (x0, 1)
    rw [drop_step (by omega), hx0, List.drop_of_length_le (by omega)]
    simp [ff]
  have O1 : Hid (okF (xs.drop t0) = true) := by
    show okF (xs.drop t0) = true
    rw [drop_step (by omega), hx0, List.drop_of_length_le (by omega)]
    unfold okF
    have : ff [x0] = (x0, 1) := by simp [ff]
    rw [this]
    simp [okF, isPt, crd]
    exact hx1.out
  have h60 : t0 ≤ 1000000 := by omega
  rw [ht0]
  clear h f hc hx0 ht0 e1 e2 e3
  have hi0 : (0 : Int) ≤ (t0 : Int) := by omega
  have hi1 : (t0 : Int) < (t0 : Int) + 1 := by omega
  go_enter Try.func44, Try.ntmps44
  go_wp2
  go_loop [5, 6, 7] (fun p q i => ∃ r : Nat, r ≤ t0 ∧ i = .int .i64 ((r : Int) - 1) ∧ p = .int .i64 (ff (xs.drop r)).1 ∧ q = .int .i64 (ff (xs.drop r)).2 ∧ okF (xs.drop r) = true) (fun _ _ i => (intOf i + 1).toNat)
  case atStart => exact ⟨t0, by omega, by go_num, by rw [F1.out], by rw [F1.out], O1.out⟩
  case round =>
    obtain ⟨r, hr, rfl, rfl, rfl, hok⟩ := hrel
    have HK := Lib.hid hok
    have hP := isPt_c1 (x := (ff (xs.drop r)).1) (y := (ff (xs.drop r)).2) (okF_pt hok (by have := HN.out; omega))
    have hQ := isPt_c2 (x := (ff (xs.drop r)).1) (y := (ff (xs.drop r)).2) (okF_pt hok (by have := HN.out; omega))
    clear hok
    cases r with
    | zero =>
      have hd : ((0 : Nat) : Int) - 1 = -1 := rfl
      rw [hd]
      clear hd
      have hk := HK.out
      rw [List.drop_zero] at hk
      have HK2 := Lib.hid hk
      obtain ⟨P, hPe⟩ : ∃ P, (ff (xs.drop 0)).1 = P := ⟨_, rfl⟩
      obtain ⟨Q, hQe⟩ : ∃ Q, (ff (xs.drop 0)).2 = Q := ⟨_, rfl⟩
      rw [hPe] at hP ⊢
      rw [hQe] at hQ ⊢
      have HP := Lib.hid hPe
      have HQ := Lib.hid hQe
      clear hk hPe hQe
      go_wp2
      go_ret3
      refine ⟨?_, rfl⟩
      have e1 := HP.out
      have e2 := HQ.out
      rw [List.drop_zero] at e1 e2
      rw [HK2.out, e1, e2]; rfl
    | succ t =>
      have hd : ((t + 1 : Nat) : Int) - 1 = (t : Int) := by omega
      rw [hd]
      clear hd
      have hc := HC.out t (by have := HN.out; omega)
      obtain ⟨x, hx⟩ : ∃ x, xs.getD t 0 = x := ⟨_, rfl⟩
      rw [hx] at hc
      have HS : Hid (ff (xs.drop t) = (x * (ff (xs.drop (t + 1))).1 + (ff (xs.drop (t + 1))).2, (ff (xs.drop (t + 1))).1)) := by
        show ff (xs.drop t) = _
        rw [drop_step (by have := HN.out; omega), hx]; rfl
      have HO : Hid (okF (xs.drop t) = (okF (xs.drop (t + 1)) && isPt (ff (xs.drop t)))) := by
        show okF (xs.drop t) = _
        rw [drop_step (by have := HN.out; omega)]; rfl
      have hx2 : -1000000 ≤ x ∧ x ≤ 1000000 := by
        have := elsB_at HL.out (show t < xs.length by have := HN.out; omega)
        unfold elB at this
        simp only [Bool.and_eq_true] at this
        rw [← hx]; exact crd_iff.1 this.1
      obtain ⟨P, hPe⟩ : ∃ P, (ff (xs.drop (t + 1))).1 = P := ⟨_, rfl⟩
      obtain ⟨Q, hQe⟩ : ∃ Q, (ff (xs.drop (t + 1))).2 = Q := ⟨_, rfl⟩
      rw [hPe] at hP HS ⊢
      rw [hQe] at hQ HS ⊢
      have hm := mul_bd hx2.1 hx2.2 hP.1 hP.2
      obtain ⟨hm1, hm2⟩ := hm
      obtain ⟨hP1, hP2⟩ := hP
      obtain ⟨hQ1, hQ2⟩ := hQ
      have hcP : crd P = true := crd_iff.2 ⟨hP1, hP2⟩
      have hi2 : (0 : Int) ≤ (t : Int) := by omega
      have hi3 : (t : Int) < (t0 : Int) + 1 := by omega
      clear hx hx2 hPe hQe
      cases hcn : crd (x * P + Q)
      · have HF : Hid (okF xs = false) := by
          show okF xs = false
          cases hokx : okF xs
          · rfl
          · exfalso
            have a := okF_drop t hokx
            rw [HO.out, HS.out] at a
            simp [isPt, hcn] at a
        go_wp2_with (go_at_call 41; refine (fits_any _ _).mono ?_; rintro e wn ⟨rfl, rfl⟩)
        go_ret3
        exact ⟨by rw [HF.out]; rfl, rfl⟩
      · have HT : Hid (okF (xs.drop t) = true) := by
          show okF (xs.drop t) = true
          rw [HO.out, HS.out, HK.out]
          simp [isPt, hcn, hcP]
        go_wp2_with (go_at_call 41; refine (fits_any _ _).mono ?_; rintro e wn ⟨rfl, rfl⟩)
        go_round
        case rel => exact ⟨t, by omega, rfl, by rw [HS.out], by rw [HS.out], HT.out⟩
        case measure => simp [intOf]
theorem l01Fold_val (B : Nat) (v : Value) (xs : List Int) (X Y : Int) (w : World) (h : OwnI B w v xs) (e1 : 1 ≤ xs.length) (e2 : xs.length ≤ 1000001) (e3 : elsB xs xs.length = true) (ho : okF xs = true) (hx : ff xs = (X, Y)) :
    Calls Try.prog 44 #[v] w fun e w' => e = .returned (.tuple #[.int .i64 X, .int .i64 Y, .bool true]) ∧ w = w' := by
  have := l01Fold_els B v xs w h e1 e2 e3
  rw [ho, hx] at this
  exact this
theorem own_mono {w : World} {base base' : Nat} {e : TypeId} {size : Nat} {v : Value} {n : Nat} {xs : List Value} (h : w.ownsRow base e size v n xs) (hb : base' ≤ base) : w.ownsRow base' e size v n xs := by
  refine ⟨h.1, ?_⟩
  rcases h.2 with h' | ⟨g, cap, cur, h1, h2, h3⟩
  · exact .inl h'
  · exact .inr ⟨g, cap, cur, h1, by omega, h3⟩
theorem own_cap {B : Nat} {w : World} {a : Option Addr} {n cap : Nat} {xs : List Int} (h : OwnI B w (.slice a n cap) xs) : n ≤ cap := by
  rcases h.2 with ⟨h', _⟩ | ⟨g', cap', cur, h', hb, hg, hnc, _⟩
  · simp only [Value.slice.injEq] at h'; omega
  · simp only [Value.slice.injEq] at h'; obtain ⟨_, h1, h2⟩ := h'; omega
theorem spec_ConvergentsOf_no (p q : Int) (w : World) (h : ratB p q = false) : Calls Try.prog 28 #[.int .i64 p, .int .i64 q] w (RetPC w [] 2) := by
  cases cp : crd p
  · clear h
    go_enter Try.func28, Try.ntmps28
    go_wp2_with (first | (go_at_call 41; refine (fits_any _ _).mono ?_; rintro e wn ⟨rfl, rfl⟩) | (go_at_call 24; go_in))
    go_ret2
    exact ⟨_, rfl, World.ownsRow_nil _ _ _ _, Below.refl _ _⟩
  · by_cases h1 : 1 ≤ q
    · have h2 : ¬ q ≤ 1000000 := by
        intro h2
        have : ratB p q = true := ratB_iff.2 ⟨crd_iff.1 cp, h1, h2⟩
        rw [h] at this; cases this
      have hd2 : decide (q ≤ 1000000) = false := by simpa using h2
      clear h
      go_enter Try.func28, Try.ntmps28
      go_wp2_with (first | (go_at_call 41; refine (fits_any _ _).mono ?_; rintro e wn ⟨rfl, rfl⟩) | (go_at_call 24; go_in))
      go_ret2
      exact ⟨_, rfl, World.ownsRow_nil _ _ _ _, Below.refl _ _⟩
    · clear h
      have hd : decide (1 ≤ q) = false := by simpa using h1
      go_enter Try.func28, Try.ntmps28
      go_wp2_with (first | (go_at_call 41; refine (fits_any _ _).mono ?_; rintro e wn ⟨rfl, rfl⟩) | (go_at_call 24; go_in))
      go_ret2
      exact ⟨_, rfl, World.ownsRow_nil _ _ _ _, Below.refl _ _⟩
set_option maxHeartbeats 1000000 in
theorem spec_ConvergentsOf_yes (p q : Int) (w : World) (h : ratB p q = true) : Calls Try.prog 28 #[.int .i64 p, .int .i64 q] w (RetPC w (cvs (expI p q) (expI p q).length) 0) := by
  obtain ⟨i0, hi, hz0, hz1, hz2⟩ := info_parts info_pt
  obtain ⟨hp, h1, h2⟩ := ratB_iff.1 h
  have cp : crd p = true := crd_iff.2 hp
  have HF := Lib.hid (fun n => okF_exp n p q (by omega) h2 hp.1 hp.2)
  have HE := Lib.hid (fun n => elsB_exp n p q h1 h2 hp.1 hp.2)
  have HL := Lib.hid (show (expI p q).length ≤ 1000001 by have := expI_len p q; omega)
  have HP := Lib.hid (show 1 ≤ (expI p q).length by rw [expI_step p q h1]; simp)
  obtain ⟨xs, hxs⟩ : ∃ l, expI p q = l := ⟨_, rfl⟩
  have HXS := Lib.hid hxs
  rw [hxs] at HF HE HL HP ⊢
  obtain ⟨n, hn⟩ : ∃ n, xs.length = n := ⟨_, rfl⟩
  have HN := Lib.hid hn
  rw [hn] at HL HP ⊢
  clear h hxs hn
  go_enter Try.func28, Try.ntmps28
  go_wp2_with (first | (go_at_call 41; refine (fits_any _ _).mono ?_; rintro e wn ⟨rfl, rfl⟩) | (go_at_call 24; go_in) | (go_at_call 43; refine (l01Expand_any _ _ _ h1 h2 hp.1 hp.2).mono ?_; rintro e wn ⟨v, rfl, hown, hb⟩))
  have HB := Lib.hid hb
  rw [HXS.out] at hown
  obtain ⟨a, cap, rfl, f⟩ := own_view hown
  have hcap := own_cap hown
  have HO := Lib.hid hown
  rw [HN.out] at f hcap HO ⊢
  obtain ⟨g, rfl, _, hg, _, _⟩ := f HP.out
  have hl := HL.out
  clear hown f hb hp
  have hi1 : (1 : Int) ≤ 1 := by omega
  go_loopw [7, 8] (fun o i wr => ∃ k : Nat, k ≤ n ∧ i = .int .i64 (k + 1) ∧ OwnF wn.heap.size wr o k (flat (cvs xs k)) ∧ Below wn.heap.size wn wr) (fun _ i _ => n + 1 - (intOf i).toNat)
  case atStart => exact ⟨0, by omega, by go_num, World.ownsRow_made wn #[] 0 (Nat.le_refl _) (Nat.zero_le _) rfl, (Below.refl _ _).alloc (Nat.le_refl _) _⟩
  case round =>
    obtain ⟨k, hk, rfl, hof, hbel⟩ := hrel
    have HOF := Lib.hid hof
    clear hof
    by_cases hlt : k < n
    · obtain ⟨X, hX⟩ : ∃ X, (ff (xs.take (k + 1))).1 = X := ⟨_, rfl⟩
      obtain ⟨Y, hY⟩ : ∃ Y, (ff (xs.take (k + 1))).2 = Y := ⟨_, rfl⟩
      have HXY : Hid (ff (xs.take (k + 1)) = (X, Y)) := by
        show ff (xs.take (k + 1)) = (X, Y)
        rw [← hX, ← hY]
      have hbw := hbel.size
      have HT : Hid (OwnI w.heap.size wr (.slice (some ⟨g, 0, none⟩) (k + 1) cap) (xs.take (k + 1))) := by
        refine own_take ?_ (k + 1) (by rw [HN.out]; omega)
        rw [HN.out]
        exact OwnI.below HO.out hbel
      have HTL : Hid ((xs.take (k + 1)).length = k + 1) := by
        show (xs.take (k + 1)).length = k + 1
        rw [List.length_take, HN.out]; omega
      have HKK := Lib.hid (show k ≤ 1000001 by omega)
      clear hX hY
      have j1 : ((k : Int) + 1) ≤ (n : Int) := by omega
      have j2 : ((k : Int) + 1) ≤ (cap : Int) := by omega
      have j3 : (0 : Int) ≤ (k : Int) + 1 := by omega
      have j4 : ((k : Int) + 1).toNat = k + 1 := by omega
      go_wp2_with (first | (go_at_call 44; refine (l01Fold_val w.heap.size _ _ X Y _ HT.out (by rw [HTL.out]; omega) (by rw [HTL.out]; have := HKK.out; omega) (HE.out (k + 1)) (HF.out (k + 1)) HXY.out).mono ?_; rintro e w2 ⟨rfl, rfl⟩) | (at_builtin; refine wpList_append_own _ rfl _ _ 26 rfl wn.heap.size 31 i0 (.agg #[.int .i64 0, .int .i64 0]) 2 16 Try.underlying26 hi hz0 hz1 hz2 rfl (by decide) _ _ _ rfl (HOF.out.alloc _) ⟨wr.heap.size, 0, none⟩ 1 1 [.int .i64 X, .int .i64 Y] rfl rfl ?c1 ?c2 ?c3 ?c4 ?c5 ?_))
      case c1 =>
        intro j u hj
        match j, hj with
        | 0, hj => simp at hj; subst hj; simp [Addr.add]
        | 1, hj => simp at hj; subst hj; simp [Addr.add]
      case c2 => intro u hu; simp at hu; rcases hu with rfl | rfl <;> rfl
      case c3 => have := HKK.out; unfold maxLen; omega
      case c4 => have := HKK.out; omega
      case c5 => simp only [World.size_alloc]; omega
      · intro v' w1 hown' hgrow _
        have hb3 : Below wn.heap.size wn w1 := by
          refine Below.grown (hbel.alloc ?_ _) hgrow ?_ (fun k hk => (HOF.out.lt k hk).1)
          · omega
          · simp only [World.size_alloc]; omega
        have HO2 : Hid (OwnF wn.heap.size w1 v' (k + 1) (flat (cvs xs (k + 1)))) := by
          show World.ownsRow _ _ _ _ _ _ _
          rw [cvs_succ, flat_append, HXY.out, List.map_append]; exact hown'
        clear hown' hgrow hbel
        go_wp2
        go_roundw
        case rel => exact ⟨k + 1, by omega, by go_num, HO2.out, hb3⟩
        case measure => simp [intOf]; omega
    · have hge : n ≤ k := by omega
      have j1 : ¬ ((k : Int) + 1) ≤ (n : Int) := by omega
      clear hlt
      go_wp2
      go_ret2
      obtain rfl : k = n := by omega
      refine ⟨_, rfl, ?_, ?_⟩
      · rw [cvs_len]
        have := HOF.out
        exact own_mono HOF.out HB.out.size
      · exact below_after hbel HB.out
end Go.Proofs.Ytibmkmcdggokbaa
