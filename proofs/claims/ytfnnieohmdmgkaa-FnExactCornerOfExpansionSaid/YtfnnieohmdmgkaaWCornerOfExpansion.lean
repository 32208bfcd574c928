/-
  The walk of laws.FnExactCornerOfExpansion: for all arguments it returns true and leaves memory as it was. No conditions.
-/
import Derived.Test.YtfnnieohmdmgkaaCoe2
import Derived.Test.YtfnnieohmdmgkaaRow
import Derived.BigRegion
namespace Go.Proofs.Ytfnnieohmdmgkaa
open Go.ChangeShapes Go.WideShapes Go.ChangeAt Go.RowKit
set_option linter.unusedVariables false
set_option linter.unusedSimpArgs false

/-- What CornerOfExpansion returns, spelled. -/
theorem coeV_form (xs : List Int) : ∃ a b c d k : Int, coeV xs = .tuple #[.agg #[.int .i64 a, .int .i64 b, .int .i64 c, .int .i64 d], .int .i64 k] := by
  unfold coeV colV
  cases coeB xs
  · exact ⟨_, _, _, _, _, rfl⟩
  · exact ⟨_, _, _, _, _, rfl⟩
theorem row_below {k : IntKind} {w w' : World} {a : Option Addr} {len cap : Nat} {zs : List Int} (h : IsRow k w a len cap zs) (hb : Below w.heap.size w w') : IsRow k w' a len cap zs := by
  rcases h with h | ⟨x, h1, h2, h3, h4, h5, h6⟩
  · exact .inl h
  · exact .inr ⟨x, h1, h2, h3, h4, fun i hi => by
      have := h5 i hi
      rw [← this]
      exact hb.cell (by have := World.block_lt_of_cell? w _ this; simpa using this), h6⟩

set_option maxHeartbeats 1600000 in
theorem walkFnExactCornerOfExpansion (a : Option Addr) (len cap : Nat) (zs : List Int) (w : World) (h : IsRow .i64 w a len cap zs) :
    Calls Try.prog 12 #[.slice a len cap] w fun e w' => e = .returned (.bool true) ∧ Below w.heap.size w w' := by
  have H0 := Lib.hid h
  clear h
  by_cases hl : (1048576 : Int) < (len : Int)
  · go_enter Try.func12, Try.ntmps12
    go_wp2
    go_ret
    exact ⟨rfl, by (repeat' (first | (with_reducible exact Below.refl _ _) | (with_reducible refine Below.alloc ?_ ?_ _) | (with_reducible refine Below.setCell ?_ ?_ _) | (with_reducible refine Below.drew ?_) | (with_reducible refine below_drewN ?_ _) | (with_reducible assumption) | (with_reducible refine below_after (by with_reducible assumption) ?_) | go_size))⟩
  · have hlen : len ≤ 1048576 := by omega
    have hld : decide ((1048576 : Int) < (len : Int)) = false := by simpa using hl
    obtain ⟨p, q, r, s, c, hR⟩ := coeV_form (zs.take len)
    have HR := Lib.hid hR
    have hxl : (zs.take len).length ≤ 1048576 := by rw [List.length_take]; omega
    have HX := Lib.hid hxl
    clear hR hxl hl
    go_enter Try.func12, Try.ntmps12
    go_wp2_with fail
    go_at_call 16
    refine (toInt64S_any _ _ _ _ _ H0.out hlen).mono ?_
    rintro e w1 ⟨v0, rfl, o0, b1⟩
    have O0 := Lib.hid o0
    have H1 := Lib.hid (row_below H0.out b1)
    clear o0
    go_wp2_with fail
    go_at_call 37
    refine (spec_CornerOfExpansion_any _ _ _ _ O0.out HX.out).mono ?_
    rintro e w2 ⟨he, b2⟩
    rw [HR.out] at he
    subst he
    have H2 := Lib.hid (row_below H1.out b2)
    go_wp2_with fail
    -- the variable of the result
    obtain ⟨w2a, hw2a⟩ : ∃ w2a, w2a = w2.alloc (.cells #[.int .i64 p, .int .i64 q, .int .i64 r, .int .i64 s] 34) := ⟨_, rfl⟩
    rw [← hw2a]
    have b2a : Below w2.heap.size w2 w2a := by rw [hw2a]; (repeat' (first | (with_reducible exact Below.refl _ _) | (with_reducible refine Below.alloc ?_ ?_ _) | (with_reducible refine Below.setCell ?_ ?_ _) | (with_reducible refine Below.drew ?_) | (with_reducible refine below_drewN ?_ _) | (with_reducible assumption) | (with_reducible refine below_after (by with_reducible assumption) ?_) | go_size))
    have z2a : w2.heap.size < w2a.heap.size := by rw [hw2a]; simp
    have k0 : w2a.cell? ⟨w2.heap.size, 0, none⟩ = some (.int .i64 p) := by rw [hw2a]; go_cell
    have k1 : w2a.cell? ⟨w2.heap.size, 1, none⟩ = some (.int .i64 q) := by rw [hw2a]; go_cell
    have k2 : w2a.cell? ⟨w2.heap.size, 2, none⟩ = some (.int .i64 r) := by rw [hw2a]; go_cell
    have k3 : w2a.cell? ⟨w2.heap.size, 3, none⟩ = some (.int .i64 s) := by rw [hw2a]; go_cell
    have H2a := Lib.hid (row_below H2.out b2a)
    clear hw2a
    go_wp2_with fail
    go_at_call 16
    refine (toInt64S_any _ _ _ _ _ H2a.out hlen).mono ?_
    rintro e w3 ⟨v1, rfl, o1, b3⟩
    have O1 := Lib.hid o1
    have H3 := Lib.hid (row_below H2a.out b3)
    clear o1
    go_wp2_with fail
    go_at_call 38
    refine (impl_CornerOfExpansion_any _ _ _ _ O1.out HX.out).mono ?_
    rintro e w4 ⟨he, b4⟩
    rw [HR.out] at he
    subst he
    have O1a := Lib.hid (O1.out.below b4)
    have H4 := Lib.hid (row_below H3.out b4)
    have b24 : Below w2a.heap.size w2a w4 := b3.trans (b4.mono b3.size)
    have j0 := (b24.cell (p := ⟨w2.heap.size, 0, none⟩) z2a).trans k0
    have j1 := (b24.cell (p := ⟨w2.heap.size, 1, none⟩) z2a).trans k1
    have j2 := (b24.cell (p := ⟨w2.heap.size, 2, none⟩) z2a).trans k2
    have j3 := (b24.cell (p := ⟨w2.heap.size, 3, none⟩) z2a).trans k3
    have z4 : w2.heap.size < w4.heap.size := Nat.lt_of_lt_of_le z2a b24.size
    clear k0 k1 k2 k3
    go_wp2_with fail
    obtain ⟨w4a, hw4a⟩ : ∃ w4a, w4a = w4.alloc (.cells #[.int .i64 p, .int .i64 q, .int .i64 r, .int .i64 s] 34) := ⟨_, rfl⟩
    have b4a : Below w4.heap.size w4 w4a := by rw [hw4a]; (repeat' (first | (with_reducible exact Below.refl _ _) | (with_reducible refine Below.alloc ?_ ?_ _) | (with_reducible refine Below.setCell ?_ ?_ _) | (with_reducible refine Below.drew ?_) | (with_reducible refine below_drewN ?_ _) | (with_reducible assumption) | (with_reducible refine below_after (by with_reducible assumption) ?_) | go_size))
    have O1b := Lib.hid (O1a.out.below b4a)
    have H4a := Lib.hid (row_below H4.out b4a)
    go_at_call 30
    rw [← hw4a]
    refine (eqCorner_same _ _ _ _ _).mono ?_
    rintro e w5 ⟨rfl, b5⟩
    have O1c := Lib.hid (O1b.out.below b5)
    have H5 := Lib.hid (row_below H4a.out b5)
    go_wp2_with fail
    go_at_call 16
    refine (toInt64S_any _ _ _ _ _ H5.out hlen).mono ?_
    rintro e w6 ⟨v2, rfl, o2, b6⟩
    have O2 := Lib.hid o2
    have O1d := Lib.hid (O1c.out.below b6)
    clear o2
    go_wp2_with fail
    go_at_call 18
    refine (eqInt64S_same _ _ _ _ _ _ O1d.out O2.out (by have := HX.out; omega)).mono ?_
    rintro e w7 ⟨rfl, b7⟩
    go_wp2
    go_ret
    exact ⟨rfl, below_after b7 (below_after b6 (below_after b5 (below_after b4a (below_after b4 (below_after b3 (below_after b2a (below_after b2 b1)))))))⟩
end Go.Proofs.Ytfnnieohmdmgkaa
