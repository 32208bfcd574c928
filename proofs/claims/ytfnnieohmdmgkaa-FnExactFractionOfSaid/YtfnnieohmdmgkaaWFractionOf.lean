/-
  The walk of laws.FnExactFractionOf: for all arguments it returns true and leaves memory as it was. No conditions.
-/
import Derived.Test.YtfnnieohmdmgkaaFold
import Derived.BigRegion
namespace Go.Proofs.Ytfnnieohmdmgkaa
open Go.ChangeShapes Go.WideShapes Go.ChangeAt Go.RowKit
set_option linter.unusedVariables false
set_option linter.unusedSimpArgs false

/-- What FractionOf returns. -/
def fracR (xs : List Int) : Value := bif expB xs then (bif okF xs then .tuple #[.int .i64 (ff xs).1, .int .i64 (ff xs).2, .int .i64 0] else .tuple #[.int .i64 0, .int .i64 0, .int .i64 3]) else .tuple #[.int .i64 0, .int .i64 0, .int .i64 2]

theorem expB_get {xs : List Int} (h : expB xs = true) (i : Nat) : crd (xs[i]?.getD 0) = true := by
  by_cases hi : i < xs.length
  · unfold expB at h
    simp only [Bool.and_eq_true] at h
    have := elsB_at h.2 hi
    unfold elB at this
    simp only [Bool.and_eq_true] at this
    simpa [List.getD] using this.1
  · rw [List.getElem?_eq_none (by omega)]; rfl
set_option maxHeartbeats 800000 in
theorem impl_FractionOf_any (B : Nat) (v : Value) (xs : List Int) (w : World) (h : OwnI B w v xs) (hx : xs.length ≤ 1048576) :
    Calls Try.prog 17 #[v] w fun e w' => e = .returned (fracR xs) ∧ Below w.heap.size w w' := by
  have HO := Lib.hid h
  cases he : expB xs
  · have HR : Hid (fracR xs = .tuple #[.int .i64 0, .int .i64 0, .int .i64 2]) := by show fracR xs = _; unfold fracR; rw [he]; rfl
    have HX := Lib.hid hx
    obtain ⟨a, cap, rfl, f⟩ := own_view h
    clear f h hx
    go_enter Try.func17, Try.ntmps17
    go_wp2_with (go_at_call 46; refine (isExpansion_any _ _ _ _ HO.out HX.out).mono ?_; rintro e wn ⟨rfl, rfl⟩)
    go_ret3
    exact ⟨by rw [HR.out]; rfl, by (repeat' (first | (with_reducible exact Below.refl _ _) | (with_reducible refine Below.alloc ?_ ?_ _) | (with_reducible refine Below.setCell ?_ ?_ _) | (with_reducible refine Below.drew ?_) | (with_reducible refine below_drewN ?_ _) | (with_reducible assumption) | (with_reducible refine below_after (by with_reducible assumption) ?_) | go_size))⟩
  · have HR : Hid (fracR xs = .tuple #[.int .i64 (fA xs), .int .i64 (fB xs), .int .i64 (fC xs)]) := by
      show fracR xs = _
      unfold fracR fA fB fC
      rw [he]
      cases okF xs <;> rfl
    have HZ := Lib.hid (expB_get he)
    have HL : Hid (1 ≤ xs.length) := by
      show 1 ≤ xs.length
      unfold expB at he
      simp only [Bool.and_eq_true, decide_eq_true_eq] at he
      exact he.1.1
    have HX := Lib.hid hx
    obtain ⟨a, cap, rfl, f⟩ := own_view h
    clear f h hx
    skip
    go_enter Try.func17, Try.ntmps17
    go_wp2_with (first | (go_at_call 46; refine (isExpansion_any _ _ _ _ HO.out HX.out).mono ?_; rintro e wn ⟨rfl, rfl⟩) | (go_at_call 47; refine (foldList_any _ _ _ _ HO.out HL.out HX.out HZ.out).mono ?_; rintro e wn ⟨rfl, hb⟩; first | (have h2 := after_call2 hb hcl hfr hlt (by ((repeat' (first | (with_reducible exact Below.refl _ _) | (with_reducible refine Below.alloc ?_ ?_ _) | (with_reducible refine Below.setCell ?_ ?_ _) | (with_reducible refine Below.drew ?_) | (with_reducible refine below_drewN ?_ _) | (with_reducible assumption) | (with_reducible refine below_after (by with_reducible assumption) ?_) | go_size)); done)); obtain ⟨hclx, hfrx, hltx, hsz⟩ := after_call hb; (try simp only [World.size_alloc, World.size_setCell, World.size_drew] at hclx hfrx hltx hsz); (try (have hszl := Nat.lt_of_succ_le hsz)); obtain ⟨hcl, hfr, hlt⟩ := h2) | (obtain ⟨hcl, hfr, hlt, hsz⟩ := after_call hb; (try simp only [World.size_alloc, World.size_setCell, World.size_drew] at hcl hfr hlt hsz))))
    go_quiet (fail)
    go_wp2
    go_ret3
    exact ⟨by rw [HR.out]; rfl, by (repeat' (first | (with_reducible exact Below.refl _ _) | (with_reducible refine Below.alloc ?_ ?_ _) | (with_reducible refine Below.setCell ?_ ?_ _) | (with_reducible refine Below.drew ?_) | (with_reducible refine below_drewN ?_ _) | (with_reducible assumption) | (with_reducible refine below_after (by with_reducible assumption) ?_) | go_size))⟩
theorem spec_FractionOf_any (B : Nat) (v : Value) (xs : List Int) (w : World) (h : OwnI B w v xs) (hx : xs.length ≤ 1048576) :
    Calls Try.prog 15 #[v] w fun e w' => e = .returned (fracR xs) ∧ w = w' := by
  have HO := Lib.hid h
  have HX := Lib.hid hx
  cases he : expB xs
  · have HR : Hid (fracR xs = .tuple #[.int .i64 0, .int .i64 0, .int .i64 2]) := by show fracR xs = _; unfold fracR; rw [he]; rfl
    clear h hx
    go_enter Try.func15, Try.ntmps15
    go_wp2_with (go_at_call 44; refine (l01List_any _ _ _ _ HO.out HX.out).mono ?_; rintro e wn ⟨rfl, rfl⟩)
    go_ret3
    exact ⟨by rw [HR.out]; rfl, rfl⟩
  · cases hk : okF xs
    · have HR : Hid (fracR xs = .tuple #[.int .i64 0, .int .i64 0, .int .i64 3]) := by show fracR xs = _; unfold fracR; rw [he, hk]; rfl
      clear h hx
      go_enter Try.func15, Try.ntmps15
      go_wp2_with (first | (go_at_call 44; refine (l01List_any _ _ _ _ HO.out HX.out).mono ?_; rintro e wn ⟨rfl, rfl⟩) | (go_at_call 45; refine (l01Fold_any _ _ _ _ HO.out he).mono ?_; rintro e wn ⟨rfl, rfl⟩))
      go_ret3
      exact ⟨by rw [HR.out]; rfl, rfl⟩
    · have HR : Hid (fracR xs = .tuple #[.int .i64 (ff xs).1, .int .i64 (ff xs).2, .int .i64 0]) := by show fracR xs = _; unfold fracR; rw [he, hk]; rfl
      clear h hx
      go_enter Try.func15, Try.ntmps15
      go_wp2_with (first | (go_at_call 44; refine (l01List_any _ _ _ _ HO.out HX.out).mono ?_; rintro e wn ⟨rfl, rfl⟩) | (go_at_call 45; refine (l01Fold_any _ _ _ _ HO.out he).mono ?_; rintro e wn ⟨rfl, rfl⟩))
      go_ret3
      exact ⟨by rw [HR.out]; rfl, rfl⟩
theorem fracR_form (xs : List Int) : ∃ a b c : Int, fracR xs = .tuple #[.int .i64 a, .int .i64 b, .int .i64 c] := by
  unfold fracR
  cases expB xs
  · exact ⟨_, _, _, rfl⟩
  · cases okF xs
    · exact ⟨_, _, _, rfl⟩
    · exact ⟨_, _, _, rfl⟩
theorem row_below {k : IntKind} {w w' : World} {a : Option Addr} {len cap : Nat} {zs : List Int} (h : IsRow k w a len cap zs) (hb : Below w.heap.size w w') : IsRow k w' a len cap zs := by
  rcases h with h | ⟨x, h1, h2, h3, h4, h5, h6⟩
  · exact .inl h
  · exact .inr ⟨x, h1, h2, h3, h4, fun i hi => by
      have := h5 i hi
      rw [← this]
      exact hb.cell (by have := World.block_lt_of_cell? w _ this; simpa using this), h6⟩

theorem walkFnExactFractionOf (a : Option Addr) (len cap : Nat) (zs : List Int) (w : World) (h : IsRow .i64 w a len cap zs) :
    Calls Try.prog 3 #[.slice a len cap] w fun e w' => e = .returned (.bool true) ∧ Below w.heap.size w w' := by
  have H0 := Lib.hid h
  clear h
  by_cases hl : (1048576 : Int) < (len : Int)
  · go_enter Try.func3, Try.ntmps3
    go_wp2
    go_ret
    exact ⟨rfl, by (repeat' (first | (with_reducible exact Below.refl _ _) | (with_reducible refine Below.alloc ?_ ?_ _) | (with_reducible refine Below.setCell ?_ ?_ _) | (with_reducible refine Below.drew ?_) | (with_reducible refine below_drewN ?_ _) | (with_reducible assumption) | (with_reducible refine below_after (by with_reducible assumption) ?_) | go_size))⟩
  · have hlen : len ≤ 1048576 := by omega
    have hld : decide ((1048576 : Int) < (len : Int)) = false := by simpa using hl
    obtain ⟨p, q, c, hR⟩ := fracR_form (zs.take len)
    have HR := Lib.hid hR
    have hxl : (zs.take len).length ≤ 1048576 := by rw [List.length_take]; omega
    have HX := Lib.hid hxl
    clear hR hxl hl
    go_enter Try.func3, Try.ntmps3
    go_wp2_with fail
    go_at_call 16
    refine (toInt64S_any _ _ _ _ _ H0.out hlen).mono ?_
    rintro e w1 ⟨v0, rfl, o0, b1⟩
    have O0 := Lib.hid o0
    have H1 := Lib.hid (row_below H0.out b1)
    clear o0
    go_wp2_with fail
    go_at_call 15
    refine (spec_FractionOf_any _ _ _ _ O0.out HX.out).mono ?_
    rintro e w2 ⟨he, rfl⟩
    rw [HR.out] at he
    subst he
    go_wp2_with fail
    go_at_call 16
    refine (toInt64S_any _ _ _ _ _ H1.out hlen).mono ?_
    rintro e w3 ⟨v1, rfl, o1, b3⟩
    have O1 := Lib.hid o1
    have H3 := Lib.hid (row_below H1.out b3)
    clear o1
    go_wp2_with fail
    go_at_call 17
    refine (impl_FractionOf_any _ _ _ _ O1.out HX.out).mono ?_
    rintro e w4 ⟨he, b4⟩
    rw [HR.out] at he
    subst he
    have O1a := Lib.hid (O1.out.below b4)
    have H4 := Lib.hid (row_below H3.out b4)
    go_wp2_with fail
    go_at_call 16
    refine (toInt64S_any _ _ _ _ _ H4.out hlen).mono ?_
    rintro e w5 ⟨v2, rfl, o2, b5⟩
    have O2 := Lib.hid o2
    have O1b := Lib.hid (O1a.out.below b5)
    clear o2
    go_wp2_with fail
    go_at_call 18
    refine (eqInt64S_same _ _ _ _ _ _ O1b.out O2.out (by have := HX.out; omega)).mono ?_
    rintro e w6 ⟨rfl, b6⟩
    go_wp2
    go_ret
    exact ⟨rfl, below_after b6 (below_after b5 (below_after b4 (below_after b3 b1)))⟩
end Go.Proofs.Ytfnnieohmdmgkaa
