/-
  The walk of laws.FnExactFractionOf: for all arguments it returns true and leaves memory as it was. No conditions.
-/
import Derived.Test.YtdehiiloiphmpabFrac2
import Derived.BigRegion
namespace Go.Proofs.Ytdehiiloiphmpab
open Go.ChangeShapes Go.WideShapes Go.ChangeAt Go.RowKit
set_option linter.unusedVariables false
set_option linter.unusedSimpArgs false

/-- What FractionOf returns. -/
def fracR (xs : List Int) : Value := bif expB xs then (bif okF xs then .tuple #[.int .i64 (ff xs).1, .int .i64 (ff xs).2, .int .i64 0] else .tuple #[.int .i64 0, .int .i64 0, .int .i64 3]) else .tuple #[.int .i64 0, .int .i64 0, .int .i64 2]

set_option maxHeartbeats 800000 in
theorem impl_FractionOf_any (B : Nat) (v : Value) (xs : List Int) (w : World) (h : OwnI B w v xs) (hx : xs.length ≤ 1048576) :
    Calls Try.prog 26 #[v] w fun e w' => e = .returned (fracR xs) ∧ Below w.heap.size w w' := by
  have HO := Lib.hid h
  cases he : expB xs
  · have HR : Hid (fracR xs = .tuple #[.int .i64 0, .int .i64 0, .int .i64 2]) := by show fracR xs = _; unfold fracR; rw [he]; rfl
    have HX := Lib.hid hx
    obtain ⟨a, cap, rfl, f⟩ := own_view h
    clear f h hx
    go_enter Try.func26, Try.ntmps26
    go_wp2_with (go_at_call 54; refine (isExpansion_any _ _ _ _ HO.out HX.out).mono ?_; rintro e wn ⟨rfl, rfl⟩)
    go_ret3
    exact ⟨by rw [HR.out]; rfl, by (repeat' (first | (with_reducible exact Below.refl _ _) | (with_reducible refine Below.alloc ?_ ?_ _) | (with_reducible refine Below.setCell ?_ ?_ _) | (with_reducible refine Below.drew ?_) | (with_reducible refine below_drewN ?_ _) | (with_reducible assumption) | (with_reducible refine below_after (by with_reducible assumption) ?_) | go_size))⟩
  · have he' := he
    unfold expB at he'
    simp only [Bool.and_eq_true, decide_eq_true_eq] at he'
    obtain ⟨⟨e1, e2⟩, e3⟩ := he'
    have HX := Lib.hid hx
    have HE := Lib.hid he
    obtain ⟨a, cap, rfl, f⟩ := own_view h
    obtain ⟨n, hn⟩ : ∃ n, xs.length = n := ⟨_, rfl⟩
    obtain ⟨g, rfl, _, hg, hc, _⟩ := f (by omega)
    have HN := Lib.hid hn
    have HL := Lib.hid e3
    have HC := Lib.hid hc
    have hgne : g ≠ w.heap.size := by omega
    rw [hn] at e1 e2 HO ⊢
    clear h f hc hx hn e3
    go_enter Try.func26, Try.ntmps26
    go_wp2_with (go_at_call 54; refine (isExpansion_any _ _ _ _ HO.out HX.out).mono ?_; rintro e wn ⟨rfl, rfl⟩)
    go_loopw [6] (fun i wr => ∃ r : Nat, r ≤ n ∧ i = .int .i64 ((r : Int) - 1) ∧ wr.cell? ⟨w.heap.size, 0, none⟩ = some (.int .i64 (ff (xs.drop r)).1) ∧ wr.cell? ⟨w.heap.size, 1, none⟩ = some (.int .i64 (ff (xs.drop r)).2) ∧ wr.frozen? ⟨w.heap.size, 0, none⟩ = false ∧ wr.frozen? ⟨w.heap.size, 1, none⟩ = false ∧ w.heap.size < wr.heap.size ∧ okF (xs.drop r) = true ∧ Below w.heap.size w wr) (fun i _ => (intOf i + 1).toNat)
    case atStart =>
      refine ⟨n, by omega, by go_num, ?_, ?_, by simp, by simp, by simp, ?_, by (repeat' (first | (with_reducible exact Below.refl _ _) | (with_reducible refine Below.alloc ?_ ?_ _) | (with_reducible refine Below.setCell ?_ ?_ _) | (with_reducible refine Below.drew ?_) | (with_reducible refine below_drewN ?_ _) | (with_reducible assumption) | (with_reducible refine below_after (by with_reducible assumption) ?_) | go_size))⟩
      · rw [List.drop_of_length_le (by rw [HN.out]; exact Nat.le_refl _)]; simp [ff]
      · rw [List.drop_of_length_le (by rw [HN.out]; exact Nat.le_refl _)]; simp [ff]
      · rw [List.drop_of_length_le (by rw [HN.out]; exact Nat.le_refl _)]; rfl
    case round =>
      obtain ⟨r, hr, rfl, c0, c1, z0, z1, hFs, hok, hbel⟩ := hrel
      have HK := Lib.hid hok
      have hP := isPt_c1 (x := (ff (xs.drop r)).1) (y := (ff (xs.drop r)).2) (okF_pt hok (by have := HN.out; omega))
      have hQ := isPt_c2 (x := (ff (xs.drop r)).1) (y := (ff (xs.drop r)).2) (okF_pt hok (by have := HN.out; omega))
      clear hok
      cases r with
      | zero =>
        have hd : ((0 : Nat) : Int) - 1 = -1 := rfl
        rw [hd]
        clear hd
        have hk := HK.out
        rw [List.drop_zero] at hk
        have HK2 := Lib.hid hk
        obtain ⟨P, hPe⟩ : ∃ P, (ff (xs.drop 0)).1 = P := ⟨_, rfl⟩
        obtain ⟨Q, hQe⟩ : ∃ Q, (ff (xs.drop 0)).2 = Q := ⟨_, rfl⟩
        rw [hPe] at hP c0
        rw [hQe] at hQ c1
        have HP := Lib.hid hPe
        have HQ := Lib.hid hQe
        clear hk hPe hQe
        go_wp2
        go_quiet (fail)
        go_wp2
        go_ret3
        refine ⟨?_, by (repeat' (first | (with_reducible exact Below.refl _ _) | (with_reducible refine Below.alloc ?_ ?_ _) | (with_reducible refine Below.setCell ?_ ?_ _) | (with_reducible refine Below.drew ?_) | (with_reducible refine below_drewN ?_ _) | (with_reducible assumption) | (with_reducible refine below_after (by with_reducible assumption) ?_) | go_size))⟩
        have e1 := HP.out
        have e2 := HQ.out
        rw [List.drop_zero] at e1 e2
        unfold fracR
        rw [HE.out, HK2.out, e1, e2]; rfl
      | succ t =>
        have hd : ((t + 1 : Nat) : Int) - 1 = (t : Int) := by omega
        rw [hd]
        clear hd
        have hc := (hbel.cell (p := ⟨g, t, none⟩) hg).trans (HC.out t (by have := HN.out; omega))
        obtain ⟨x, hx⟩ : ∃ x, xs.getD t 0 = x := ⟨_, rfl⟩
        rw [hx] at hc
        have HS : Hid (ff (xs.drop t) = (x * (ff (xs.drop (t + 1))).1 + (ff (xs.drop (t + 1))).2, (ff (xs.drop (t + 1))).1)) := by
          show ff (xs.drop t) = _
          rw [drop_step (by have := HN.out; omega), hx]; rfl
        have HO : Hid (okF (xs.drop t) = (okF (xs.drop (t + 1)) && isPt (ff (xs.drop t)))) := by
          show okF (xs.drop t) = _
          rw [drop_step (by have := HN.out; omega)]; rfl
        have hx2 : -1000000 ≤ x ∧ x ≤ 1000000 := by
          have := elsB_at HL.out (show t < xs.length by have := HN.out; omega)
          unfold elB at this
          simp only [Bool.and_eq_true] at this
          rw [← hx]; exact crd_iff.1 this.1
        obtain ⟨P, hPe⟩ : ∃ P, (ff (xs.drop (t + 1))).1 = P := ⟨_, rfl⟩
        obtain ⟨Q, hQe⟩ : ∃ Q, (ff (xs.drop (t + 1))).2 = Q := ⟨_, rfl⟩
        rw [hPe] at hP HS c0
        rw [hQe] at hQ HS c1
        have hm := mul_bd hx2.1 hx2.2 hP.1 hP.2
        obtain ⟨hm1, hm2⟩ := hm
        obtain ⟨hP1, hP2⟩ := hP
        obtain ⟨hQ1, hQ2⟩ := hQ
        have hi2 : (0 : Int) ≤ (t : Int) := by omega
        have hi3 : (t : Int) < (n : Int) := by omega
        clear hx hx2 hPe hQe
        cases hpt : isPt (x * P + Q, P)
        · have HF : Hid (okF xs = false) := by
            show okF xs = false
            cases hokx : okF xs
            · rfl
            · exfalso
              have a := okF_drop t hokx
              rw [HO.out, HS.out, hpt, Bool.and_false] at a
              cases a
          go_wp2
          go_region
          go_wp2_with (go_at_call 38; refine (isPoint_any _ _ _).mono ?_; rintro e wn ⟨rfl, hb⟩; first | (have h2 := after_call2 hb hcl hfr hlt (by ((repeat' (first | (with_reducible exact Below.refl _ _) | (with_reducible refine Below.alloc ?_ ?_ _) | (with_reducible refine Below.setCell ?_ ?_ _) | (with_reducible refine Below.drew ?_) | (with_reducible refine below_drewN ?_ _) | (with_reducible assumption) | (with_reducible refine below_after (by with_reducible assumption) ?_) | go_size)); done)); obtain ⟨hclx, hfrx, hltx, hsz⟩ := after_call hb; try simp only [World.size_alloc, World.size_setCell, World.size_drew] at hclx hfrx hltx hsz; try (have hszl := Nat.lt_of_succ_le hsz); obtain ⟨hcl, hfr, hlt⟩ := h2) | (obtain ⟨hcl, hfr, hlt, hsz⟩ := after_call hb; try simp only [World.size_alloc, World.size_setCell, World.size_drew] at hcl hfr hlt hsz))
          go_ret3
          refine ⟨by unfold fracR; rw [HE.out, HF.out]; rfl, by (repeat' (first | (with_reducible exact Below.refl _ _) | (with_reducible refine Below.alloc ?_ ?_ _) | (with_reducible refine Below.setCell ?_ ?_ _) | (with_reducible refine Below.drew ?_) | (with_reducible refine below_drewN ?_ _) | (with_reducible assumption) | (with_reducible refine below_after (by with_reducible assumption) ?_) | go_size))⟩
        · have HT : Hid (okF (xs.drop t) = true) := by
            show okF (xs.drop t) = true
            rw [HO.out, HS.out, HK.out, hpt]; rfl
          go_wp2
          go_region
          go_wp2_with (go_at_call 38; refine (isPoint_any _ _ _).mono ?_; rintro e wn ⟨rfl, hb⟩; first | (have h2 := after_call2 hb hcl hfr hlt (by ((repeat' (first | (with_reducible exact Below.refl _ _) | (with_reducible refine Below.alloc ?_ ?_ _) | (with_reducible refine Below.setCell ?_ ?_ _) | (with_reducible refine Below.drew ?_) | (with_reducible refine below_drewN ?_ _) | (with_reducible assumption) | (with_reducible refine below_after (by with_reducible assumption) ?_) | go_size)); done)); obtain ⟨hclx, hfrx, hltx, hsz⟩ := after_call hb; try simp only [World.size_alloc, World.size_setCell, World.size_drew] at hclx hfrx hltx hsz; try (have hszl := Nat.lt_of_succ_le hsz); obtain ⟨hcl, hfr, hlt⟩ := h2) | (obtain ⟨hcl, hfr, hlt, hsz⟩ := after_call hb; try simp only [World.size_alloc, World.size_setCell, World.size_drew] at hcl hfr hlt hsz))
          go_roundw
          case rel => exact ⟨t, by omega, rfl, by rw [HS.out, hcl _ _ hFs]; go_cell, by rw [HS.out, hcl _ _ hFs]; go_cell, by rw [hfr _ _ hFs]; simpa using z0, by rw [hfr _ _ hFs]; simpa using z1, hlt _ hFs, HT.out, by (repeat' (first | (with_reducible exact Below.refl _ _) | (with_reducible refine Below.alloc ?_ ?_ _) | (with_reducible refine Below.setCell ?_ ?_ _) | (with_reducible refine Below.drew ?_) | (with_reducible refine below_drewN ?_ _) | (with_reducible assumption) | (with_reducible refine below_after (by with_reducible assumption) ?_) | go_size))⟩
          case measure => simp [intOf]
theorem spec_FractionOf_any (B : Nat) (v : Value) (xs : List Int) (w : World) (h : OwnI B w v xs) (hx : xs.length ≤ 1048576) :
    Calls Try.prog 24 #[v] w fun e w' => e = .returned (fracR xs) ∧ w = w' := by
  have HO := Lib.hid h
  have HX := Lib.hid hx
  cases he : expB xs
  · have HR : Hid (fracR xs = .tuple #[.int .i64 0, .int .i64 0, .int .i64 2]) := by show fracR xs = _; unfold fracR; rw [he]; rfl
    clear h hx
    go_enter Try.func24, Try.ntmps24
    go_wp2_with (go_at_call 52; refine (l01List_any _ _ _ _ HO.out HX.out).mono ?_; rintro e wn ⟨rfl, rfl⟩)
    go_ret3
    exact ⟨by rw [HR.out]; rfl, rfl⟩
  · cases hk : okF xs
    · have HR : Hid (fracR xs = .tuple #[.int .i64 0, .int .i64 0, .int .i64 3]) := by show fracR xs = _; unfold fracR; rw [he, hk]; rfl
      clear h hx
      go_enter Try.func24, Try.ntmps24
      go_wp2_with (first | (go_at_call 52; refine (l01List_any _ _ _ _ HO.out HX.out).mono ?_; rintro e wn ⟨rfl, rfl⟩) | (go_at_call 53; refine (l01Fold_any _ _ _ _ HO.out he).mono ?_; rintro e wn ⟨rfl, rfl⟩))
      go_ret3
      exact ⟨by rw [HR.out]; rfl, rfl⟩
    · have HR : Hid (fracR xs = .tuple #[.int .i64 (ff xs).1, .int .i64 (ff xs).2, .int .i64 0]) := by show fracR xs = _; unfold fracR; rw [he, hk]; rfl
      clear h hx
      go_enter Try.func24, Try.ntmps24
      go_wp2_with (first | (go_at_call 52; refine (l01List_any _ _ _ _ HO.out HX.out).mono ?_; rintro e wn ⟨rfl, rfl⟩) | (go_at_call 53; refine (l01Fold_any _ _ _ _ HO.out he).mono ?_; rintro e wn ⟨rfl, rfl⟩))
      go_ret3
      exact ⟨by rw [HR.out]; rfl, rfl⟩
theorem fracR_form (xs : List Int) : ∃ a b c : Int, fracR xs = .tuple #[.int .i64 a, .int .i64 b, .int .i64 c] := by
  unfold fracR
  cases expB xs
  · exact ⟨_, _, _, rfl⟩
  · cases okF xs
    · exact ⟨_, _, _, rfl⟩
    · exact ⟨_, _, _, rfl⟩
theorem row_below {k : IntKind} {w w' : World} {a : Option Addr} {len cap : Nat} {zs : List Int} (h : IsRow k w a len cap zs) (hb : Below w.heap.size w w') : IsRow k w' a len cap zs := by
  rcases h with h | ⟨x, h1, h2, h3, h4, h5, h6⟩
  · exact .inl h
  · exact .inr ⟨x, h1, h2, h3, h4, fun i hi => by
      have := h5 i hi
      rw [← this]
      exact hb.cell (by have := World.block_lt_of_cell? w _ this; simpa using this), h6⟩

theorem walkFnExactFractionOf (a : Option Addr) (len cap : Nat) (zs : List Int) (w : World) (h : IsRow .i64 w a len cap zs) :
    Calls Try.prog 7 #[.slice a len cap] w fun e w' => e = .returned (.bool true) ∧ Below w.heap.size w w' := by
  have H0 := Lib.hid h
  clear h
  by_cases hl : (1048576 : Int) < (len : Int)
  · go_enter Try.func7, Try.ntmps7
    go_wp2
    go_ret
    exact ⟨rfl, by (repeat' (first | (with_reducible exact Below.refl _ _) | (with_reducible refine Below.alloc ?_ ?_ _) | (with_reducible refine Below.setCell ?_ ?_ _) | (with_reducible refine Below.drew ?_) | (with_reducible refine below_drewN ?_ _) | (with_reducible assumption) | (with_reducible refine below_after (by with_reducible assumption) ?_) | go_size))⟩
  · have hlen : len ≤ 1048576 := by omega
    have hld : decide ((1048576 : Int) < (len : Int)) = false := by simpa using hl
    obtain ⟨p, q, c, hR⟩ := fracR_form (zs.take len)
    have HR := Lib.hid hR
    have hxl : (zs.take len).length ≤ 1048576 := by rw [List.length_take]; omega
    have HX := Lib.hid hxl
    clear hR hxl hl
    go_enter Try.func7, Try.ntmps7
    go_wp2_with fail
    go_at_call 25
    refine (toInt64S_any _ _ _ _ _ H0.out hlen).mono ?_
    rintro e w1 ⟨v0, rfl, o0, b1⟩
    have O0 := Lib.hid o0
    have H1 := Lib.hid (row_below H0.out b1)
    clear o0
    go_wp2_with fail
    go_at_call 24
    refine (spec_FractionOf_any _ _ _ _ O0.out HX.out).mono ?_
    rintro e w2 ⟨he, rfl⟩
    rw [HR.out] at he
    subst he
    go_wp2_with fail
    go_at_call 25
    refine (toInt64S_any _ _ _ _ _ H1.out hlen).mono ?_
    rintro e w3 ⟨v1, rfl, o1, b3⟩
    have O1 := Lib.hid o1
    have H3 := Lib.hid (row_below H1.out b3)
    clear o1
    go_wp2_with fail
    go_at_call 26
    refine (impl_FractionOf_any _ _ _ _ O1.out HX.out).mono ?_
    rintro e w4 ⟨he, b4⟩
    rw [HR.out] at he
    subst he
    have O1a := Lib.hid (O1.out.below b4)
    have H4 := Lib.hid (row_below H3.out b4)
    go_wp2_with fail
    go_at_call 25
    refine (toInt64S_any _ _ _ _ _ H4.out hlen).mono ?_
    rintro e w5 ⟨v2, rfl, o2, b5⟩
    have O2 := Lib.hid o2
    have O1b := Lib.hid (O1a.out.below b5)
    clear o2
    go_wp2_with fail
    go_at_call 21
    refine (eqInt64S_same _ _ _ _ _ _ O1b.out O2.out (by have := HX.out; omega)).mono ?_
    rintro e w6 ⟨rfl, b6⟩
    go_wp2
    go_ret
    exact ⟨rfl, below_after b6 (below_after b5 (below_after b4 (below_after b3 b1)))⟩
end Go.Proofs.Ytdehiiloiphmpab
