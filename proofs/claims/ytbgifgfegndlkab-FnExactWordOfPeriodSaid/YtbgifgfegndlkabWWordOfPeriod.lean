/-
  The walk of laws.FnExactWordOfPeriod: for all arguments it returns true and leaves memory as it was. No conditions.
-/
import Derived.Test.YtbgifgfegndlkabWpP
import Derived.Test.YtbgifgfegndlkabRow
namespace Go.Proofs.Ytbgifgfegndlkab
open Go.ChangeShapes Go.WideShapes Go.ChangeAt Go.RowKit
set_option linter.unusedVariables false
set_option linter.unusedSimpArgs false

theorem row_below {k : IntKind} {w w' : World} {a : Option Addr} {len cap : Nat} {zs : List Int} (h : IsRow k w a len cap zs) (hb : Below w.heap.size w w') : IsRow k w' a len cap zs := by
  rcases h with h | ⟨x, h1, h2, h3, h4, h5, h6⟩
  · exact .inl h
  · exact .inr ⟨x, h1, h2, h3, h4, fun i hi => by
      have := h5 i hi
      rw [← this]
      exact hb.cell (by have := World.block_lt_of_cell? w _ this; simpa using this), h6⟩
set_option maxRecDepth 100000 in
set_option maxHeartbeats 3200000 in
theorem walkFnExactWordOfPeriod (a : Option Addr) (len cap : Nat) (zs : List Int) (w : World) (h : IsRow .i64 w a len cap zs) :
    Calls Try.prog 3 #[.slice a len cap] w fun e w' => e = .returned (.bool true) ∧ Below w.heap.size w w' := by
  have H0 := Lib.hid h
  clear h
  by_cases hl : (1048576 : Int) < (len : Int)
  · go_enter Try.func3, Try.ntmps3
    go_wp2
    go_ret
    exact ⟨rfl, by (repeat' (first | (with_reducible exact Below.refl _ _) | (with_reducible refine Below.alloc ?_ ?_ _) | (with_reducible refine Below.setCell ?_ ?_ _) | (with_reducible refine Below.drew ?_) | (with_reducible refine below_drewN ?_ _) | (with_reducible assumption) | (with_reducible refine below_after (by with_reducible assumption) ?_) | go_size))⟩
  · have hlen : len ≤ 1048576 := by omega
    have hld : decide ((1048576 : Int) < (len : Int)) = false := by simpa using hl
    have hxl : (zs.take len).length ≤ 1048576 := by rw [List.length_take]; omega
    have HT : Hid (∀ w, IsRow .i64 w a len cap zs → Calls Try.prog 5 #[.slice a len cap] w (RetI w (zs.take len))) := fun w h => toInt64S_any _ _ _ _ _ h hlen
    obtain ⟨xs, hxs⟩ : ∃ xs, zs.take len = xs := ⟨_, rfl⟩
    rw [hxs] at hxl HT
    obtain ⟨n, hn⟩ : ∃ n, xs.length = n := ⟨_, rfl⟩
    have HN := Lib.hid hn
    have HX := Lib.hid hxl
    have hnl : n ≤ 1048576 := by omega
    clear hxs
    obtain ⟨R, hR⟩ : ∃ R : ByteArray, (⟨(wpW xs).toArray⟩ : ByteArray) = R := ⟨_, rfl⟩
    obtain ⟨c, hc⟩ : ∃ c : Int, wpC xs = c := ⟨_, rfl⟩
    have HSp : Hid (∀ (B : Nat) (a : Option Addr) (cap : Nat) (w : World), OwnI B w (.slice a n cap) xs → Calls Try.prog 4 #[.slice a n cap] w fun e w' => e = .returned (.tuple #[.string R, .int .i64 c]) ∧ Below w.heap.size w w') := by
      intro B a cap w h
      have := spec_WordOfPeriod_any a cap xs w (own_src (by rw [hn]; exact h)).1 hxl
      rw [hR, hc, hn] at this
      exact this
    have HIm : Hid (∀ (B : Nat) (a : Option Addr) (cap : Nat) (w : World), OwnI B w (.slice a n cap) xs → Calls Try.prog 6 #[.slice a n cap] w fun e w' => e = .returned (.tuple #[.string R, .int .i64 c]) ∧ Below w.heap.size w w') := by
      intro B a cap w h
      have := impl_WordOfPeriod_any B a cap xs w (by rw [hn]; exact h) hxl
      rw [hR, hc, hn] at this
      exact this
    clear hR hc hxl hl hn
    go_enter Try.func3, Try.ntmps3
    go_wp2_with fail
    go_at_call 5
    refine (HT.out _ H0.out).mono ?_
    rintro e w1 ⟨v0, rfl, o0, b1⟩
    obtain ⟨a0, cap0, rfl, _⟩ := own_view o0
    rw [HN.out] at o0 ⊢
    have O0 := Lib.hid o0
    have H1 := Lib.hid (row_below H0.out b1)
    clear o0
    go_wp2_with fail
    go_at_call 4
    refine (HSp.out _ _ _ _ O0.out).mono ?_
    rintro e w2 ⟨rfl, b2⟩
    have H2 := Lib.hid (row_below H1.out b2)
    go_wp2_with fail
    go_at_call 5
    refine (HT.out _ H2.out).mono ?_
    rintro e w3 ⟨v1, rfl, o1, b3⟩
    obtain ⟨a1, cap1, rfl, _⟩ := own_view o1
    rw [HN.out] at o1 ⊢
    have O1 := Lib.hid o1
    have H3 := Lib.hid (row_below H2.out b3)
    clear o1
    go_wp2_with fail
    go_at_call 6
    refine (HIm.out _ _ _ _ O1.out).mono ?_
    rintro e w4 ⟨rfl, b4⟩
    have O1a := Lib.hid (O1.out.below b4)
    have H4 := Lib.hid (row_below H3.out b4)
    go_wp2_with fail
    go_at_call 5
    refine (HT.out _ H4.out).mono ?_
    rintro e w5 ⟨v2, rfl, o2, b5⟩
    have O2 := Lib.hid o2
    have O1b := Lib.hid (O1a.out.below b5)
    clear o2
    go_wp2_with fail
    go_at_call 7
    refine (eqInt64S_same _ _ _ _ _ _ O1b.out O2.out (by have := HX.out; omega)).mono ?_
    rintro e w6 ⟨rfl, b6⟩
    go_wp2
    go_ret
    exact ⟨rfl, below_after b6 (below_after b5 (below_after b4 (below_after b3 (below_after b2 b1))))⟩
end Go.Proofs.Ytbgifgfegndlkab
