/-
  Chapter 1's functions, program and model side by side: each pair answers the same, and what the answer tells (own work).
-/
import Derived.Test.YtoenlpkphekbnaaAlg4
import Derived.Test.YtoenlpkphekbnaaAdd
import Derived.Test.YtoenlpkphekbnaaApp
import Derived.Test.YtoenlpkphekbnaaMul2
import Derived.Test.YtoenlpkphekbnaaMtc
import Derived.Test.YtoenlpkphekbnaaMateQ
import Derived.Test.YtoenlpkphekbnaaInv
import Derived.Test.YtoenlpkphekbnaaMxC
import Derived.Test.YtoenlpkphekbnaaCorM
namespace Go.Proofs.Ytoenlpkphekbnaa
open Go.ChangeShapes Go.WideShapes Go.ChangeAt Go.RowKit
set_option linter.unusedVariables false
set_option maxRecDepth 100000
set_option linter.unusedSimpArgs false
set_option maxRecDepth 100000

theorem spec_InverseMatrix_no (a b c d : Int) (w : World) (hm : isMx a b c d = false) :
    Calls Try.prog 9 #[.agg #[.int .i64 a, .int .i64 b, .int .i64 c, .int .i64 d]] w fun e w' => e = .returned (.tuple #[.agg #[.int .i64 0, .int .i64 0, .int .i64 0, .int .i64 0], .int .i64 1]) ∧ Below w.heap.size w w' := by
  have hs20 : w.heap.size < w.heap.size + 1 + 1 := (by omega)
  go_enter Try.func9, Try.ntmps9
  go_wp2_with (go_at_call 75; refine (l01Matrix_any _ _ _ _ _).mono ?_; rintro e wn ⟨rfl, hb⟩; first | (have h2 := after_call2 hb hcl hfr hlt (by ((repeat' (first | (with_reducible exact Below.refl _ _) | (with_reducible refine Below.alloc ?_ ?_ _) | (with_reducible refine Below.setCell ?_ ?_ _) | (with_reducible refine Below.drew ?_) | (with_reducible refine below_drewN ?_ _) | (with_reducible assumption) | (with_reducible refine below_after (by with_reducible assumption) ?_) | go_size)); done)); obtain ⟨hclx, hfrx, hltx, hsz⟩ := after_call hb; (try simp only [World.size_alloc, World.size_setCell, World.size_drew] at hclx hfrx hltx hsz); (try (have hszl := Nat.lt_of_succ_le hsz)); obtain ⟨hcl, hfr, hlt⟩ := h2) | (obtain ⟨hcl, hfr, hlt, hsz⟩ := after_call hb; (try simp only [World.size_alloc, World.size_setCell, World.size_drew] at hcl hfr hlt hsz)))
  refine bodyPost_ret (v := .tuple #[.agg #[.int .i64 0, .int .i64 0, .int .i64 0, .int .i64 0], .int .i64 1]) (by simp (maxDischargeDepth := 8) [results, Try.results9, go_sem, *]) rfl ?_
  exact ⟨rfl, by (repeat' (first | (with_reducible exact Below.refl _ _) | (with_reducible refine Below.alloc ?_ ?_ _) | (with_reducible refine Below.setCell ?_ ?_ _) | (with_reducible refine Below.drew ?_) | (with_reducible refine below_drewN ?_ _) | (with_reducible assumption) | (with_reducible refine below_after (by with_reducible assumption) ?_) | go_size))⟩
theorem spec_InverseMatrix_state (a b c d : Int) (w : World) (hm : isMx a b c d = true) (hu : ¬ (detP (a, b) (c, d) = 1 ∨ detP (a, b) (c, d) = -1)) :
    Calls Try.prog 9 #[.agg #[.int .i64 a, .int .i64 b, .int .i64 c, .int .i64 d]] w fun e w' => e = .returned (.tuple #[.agg #[.int .i64 0, .int .i64 0, .int .i64 0, .int .i64 0], .int .i64 5]) ∧ Below w.heap.size w w' := by
  have HU := Lib.hid hu
  clear hu
  have hs20 : w.heap.size < w.heap.size + 1 + 1 := (by omega)
  go_enter Try.func9, Try.ntmps9
  go_wp2_with (first | (go_at_call 75; refine (l01Matrix_any _ _ _ _ _).mono ?_; rintro e wn ⟨rfl, hb⟩; first | (have h2 := after_call2 hb hcl hfr hlt (by ((repeat' (first | (with_reducible exact Below.refl _ _) | (with_reducible refine Below.alloc ?_ ?_ _) | (with_reducible refine Below.setCell ?_ ?_ _) | (with_reducible refine Below.drew ?_) | (with_reducible refine below_drewN ?_ _) | (with_reducible assumption) | (with_reducible refine below_after (by with_reducible assumption) ?_) | go_size)); done)); obtain ⟨hclx, hfrx, hltx, hsz⟩ := after_call hb; (try simp only [World.size_alloc, World.size_setCell, World.size_drew] at hclx hfrx hltx hsz); (try (have hszl := Nat.lt_of_succ_le hsz)); obtain ⟨hcl, hfr, hlt⟩ := h2) | (obtain ⟨hcl, hfr, hlt, hsz⟩ := after_call hb; (try simp only [World.size_alloc, World.size_setCell, World.size_drew] at hcl hfr hlt hsz))) | (go_at_call 76; refine (l01Unit_no _ _ _ _ _ hm HU.out).mono ?_; rintro e wn ⟨rfl, hb⟩; first | (have h2 := after_call2 hb hcl hfr hlt (by ((repeat' (first | (with_reducible exact Below.refl _ _) | (with_reducible refine Below.alloc ?_ ?_ _) | (with_reducible refine Below.setCell ?_ ?_ _) | (with_reducible refine Below.drew ?_) | (with_reducible refine below_drewN ?_ _) | (with_reducible assumption) | (with_reducible refine below_after (by with_reducible assumption) ?_) | go_size)); done)); obtain ⟨hclx, hfrx, hltx, hsz⟩ := after_call hb; (try simp only [World.size_alloc, World.size_setCell, World.size_drew] at hclx hfrx hltx hsz); (try (have hszl := Nat.lt_of_succ_le hsz)); obtain ⟨hcl, hfr, hlt⟩ := h2) | (obtain ⟨hcl, hfr, hlt, hsz⟩ := after_call hb; (try simp only [World.size_alloc, World.size_setCell, World.size_drew] at hcl hfr hlt hsz))))
  refine bodyPost_ret (v := .tuple #[.agg #[.int .i64 0, .int .i64 0, .int .i64 0, .int .i64 0], .int .i64 5]) (by simp (maxDischargeDepth := 8) [results, Try.results9, go_sem, *]) rfl ?_
  exact ⟨rfl, by (repeat' (first | (with_reducible exact Below.refl _ _) | (with_reducible refine Below.alloc ?_ ?_ _) | (with_reducible refine Below.setCell ?_ ?_ _) | (with_reducible refine Below.drew ?_) | (with_reducible refine below_drewN ?_ _) | (with_reducible assumption) | (with_reducible refine below_after (by with_reducible assumption) ?_) | go_size))⟩
theorem spec_InverseMatrix_yes (a b c d : Int) (w : World) (hm : isMx a b c d = true) (hu : detP (a, b) (c, d) = 1 ∨ detP (a, b) (c, d) = -1) :
    Calls Try.prog 9 #[.agg #[.int .i64 a, .int .i64 b, .int .i64 c, .int .i64 d]] w fun e w' => e = .returned (.tuple #[.agg #[.int .i64 (detP (a, b) (c, d) * d), .int .i64 (-detP (a, b) (c, d) * b), .int .i64 (-detP (a, b) (c, d) * c), .int .i64 (detP (a, b) (c, d) * a)], .int .i64 0]) ∧ Below w.heap.size w w' := by
  have HU := Lib.hid hu
  clear hu
  have hs20 : w.heap.size < w.heap.size + 1 + 1 := (by omega)
  go_enter Try.func9, Try.ntmps9
  go_wp2_with (first | (go_at_call 75; refine (l01Matrix_any _ _ _ _ _).mono ?_; rintro e wn ⟨rfl, hb⟩; first | (have h2 := after_call2 hb hcl hfr hlt (by ((repeat' (first | (with_reducible exact Below.refl _ _) | (with_reducible refine Below.alloc ?_ ?_ _) | (with_reducible refine Below.setCell ?_ ?_ _) | (with_reducible refine Below.drew ?_) | (with_reducible refine below_drewN ?_ _) | (with_reducible assumption) | (with_reducible refine below_after (by with_reducible assumption) ?_) | go_size)); done)); obtain ⟨hclx, hfrx, hltx, hsz⟩ := after_call hb; (try simp only [World.size_alloc, World.size_setCell, World.size_drew] at hclx hfrx hltx hsz); (try (have hszl := Nat.lt_of_succ_le hsz)); obtain ⟨hcl, hfr, hlt⟩ := h2) | (obtain ⟨hcl, hfr, hlt, hsz⟩ := after_call hb; (try simp only [World.size_alloc, World.size_setCell, World.size_drew] at hcl hfr hlt hsz))) | (go_at_call 76; refine (l01Unit_yes _ _ _ _ _ hm HU.out).mono ?_; rintro e wn ⟨rfl, hb⟩; first | (have h2 := after_call2 hb hcl hfr hlt (by ((repeat' (first | (with_reducible exact Below.refl _ _) | (with_reducible refine Below.alloc ?_ ?_ _) | (with_reducible refine Below.setCell ?_ ?_ _) | (with_reducible refine Below.drew ?_) | (with_reducible refine below_drewN ?_ _) | (with_reducible assumption) | (with_reducible refine below_after (by with_reducible assumption) ?_) | go_size)); done)); obtain ⟨hclx, hfrx, hltx, hsz⟩ := after_call hb; (try simp only [World.size_alloc, World.size_setCell, World.size_drew] at hclx hfrx hltx hsz); (try (have hszl := Nat.lt_of_succ_le hsz)); obtain ⟨hcl, hfr, hlt⟩ := h2) | (obtain ⟨hcl, hfr, hlt, hsz⟩ := after_call hb; (try simp only [World.size_alloc, World.size_setCell, World.size_drew] at hcl hfr hlt hsz))) | (go_at_call 77; refine (l01Minus_any _ _ _ _ _ hm HU.out).mono ?_; rintro e wn ⟨rfl, hb⟩; first | (have h2 := after_call2 hb hcl hfr hlt (by ((repeat' (first | (with_reducible exact Below.refl _ _) | (with_reducible refine Below.alloc ?_ ?_ _) | (with_reducible refine Below.setCell ?_ ?_ _) | (with_reducible refine Below.drew ?_) | (with_reducible refine below_drewN ?_ _) | (with_reducible assumption) | (with_reducible refine below_after (by with_reducible assumption) ?_) | go_size)); done)); obtain ⟨hclx, hfrx, hltx, hsz⟩ := after_call hb; (try simp only [World.size_alloc, World.size_setCell, World.size_drew] at hclx hfrx hltx hsz); (try (have hszl := Nat.lt_of_succ_le hsz)); obtain ⟨hcl, hfr, hlt⟩ := h2) | (obtain ⟨hcl, hfr, hlt, hsz⟩ := after_call hb; (try simp only [World.size_alloc, World.size_setCell, World.size_drew] at hcl hfr hlt hsz))))
  refine bodyPost_ret (v := .tuple #[.agg #[.int .i64 (detP (a, b) (c, d) * d), .int .i64 (-detP (a, b) (c, d) * b), .int .i64 (-detP (a, b) (c, d) * c), .int .i64 (detP (a, b) (c, d) * a)], .int .i64 0]) (by simp (maxDischargeDepth := 8) [results, Try.results9, go_sem, *]) rfl ?_
  exact ⟨rfl, by (repeat' (first | (with_reducible exact Below.refl _ _) | (with_reducible refine Below.alloc ?_ ?_ _) | (with_reducible refine Below.setCell ?_ ?_ _) | (with_reducible refine Below.drew ?_) | (with_reducible refine below_drewN ?_ _) | (with_reducible assumption) | (with_reducible refine below_after (by with_reducible assumption) ?_) | go_size))⟩
theorem spec_MateOf_no (x0 y0 : Int) (w : World) (hn : isPt (x0, y0) = false) :
    Calls Try.prog 20 #[.agg #[.int .i64 x0, .int .i64 y0]] w fun e w' => e = .returned (.tuple #[.agg #[.int .i64 0, .int .i64 0], .int .i64 1]) ∧ Below w.heap.size w w' := by
  have hs20 : w.heap.size < w.heap.size + 1 + 1 := (by omega)
  go_enter Try.func20, Try.ntmps20
  go_wp2_with (first | (go_at_call 95; refine (l01Is_any _ _ _).mono ?_; rintro e wn ⟨rfl, hb⟩; first | (have h2 := after_call2 hb hcl hfr hlt (by ((repeat' (first | (with_reducible exact Below.refl _ _) | (with_reducible refine Below.alloc ?_ ?_ _) | (with_reducible refine Below.setCell ?_ ?_ _) | (with_reducible refine Below.drew ?_) | (with_reducible refine below_drewN ?_ _) | (with_reducible assumption) | (with_reducible refine below_after (by with_reducible assumption) ?_) | go_size)); done)); obtain ⟨hclx, hfrx, hltx, hsz⟩ := after_call hb; (try simp only [World.size_alloc, World.size_setCell, World.size_drew] at hclx hfrx hltx hsz); (try (have hszl := Nat.lt_of_succ_le hsz)); obtain ⟨hcl, hfr, hlt⟩ := h2) | (obtain ⟨hcl, hfr, hlt, hsz⟩ := after_call hb; (try simp only [World.size_alloc, World.size_setCell, World.size_drew] at hcl hfr hlt hsz))))
  refine bodyPost_ret (v := .tuple #[.agg #[.int .i64 0, .int .i64 0], .int .i64 1]) (by simp (maxDischargeDepth := 8) [results, Try.results20, go_sem, *]) rfl ?_
  exact ⟨rfl, by (repeat' (first | (with_reducible exact Below.refl _ _) | (with_reducible refine Below.alloc ?_ ?_ _) | (with_reducible refine Below.setCell ?_ ?_ _) | (with_reducible refine Below.drew ?_) | (with_reducible refine below_drewN ?_ _) | (with_reducible assumption) | (with_reducible refine below_after (by with_reducible assumption) ?_) | go_size))⟩
theorem spec_MateOf_state (x0 y0 : Int) (w : World) (k0 : isPt (x0, y0) = true) (hg : gcdI x0 y0 ≠ 1) :
    Calls Try.prog 20 #[.agg #[.int .i64 x0, .int .i64 y0]] w fun e w' => e = .returned (.tuple #[.agg #[.int .i64 0, .int .i64 0], .int .i64 5]) ∧ Below w.heap.size w w' := by
  have hgb : (gcdI x0 y0 == 1) = false := by simpa using hg
  have HX := Lib.hid (isPt_c1 k0)
  have HY := Lib.hid (isPt_c2 k0)
  have hs20 : w.heap.size < w.heap.size + 1 + 1 := (by omega)
  go_enter Try.func20, Try.ntmps20
  go_wp2_with (first | (go_at_call 95; refine (l01Is_any _ _ _).mono ?_; rintro e wn ⟨rfl, hb⟩; first | (have h2 := after_call2 hb hcl hfr hlt (by ((repeat' (first | (with_reducible exact Below.refl _ _) | (with_reducible refine Below.alloc ?_ ?_ _) | (with_reducible refine Below.setCell ?_ ?_ _) | (with_reducible refine Below.drew ?_) | (with_reducible refine below_drewN ?_ _) | (with_reducible assumption) | (with_reducible refine below_after (by with_reducible assumption) ?_) | go_size)); done)); obtain ⟨hclx, hfrx, hltx, hsz⟩ := after_call hb; (try simp only [World.size_alloc, World.size_setCell, World.size_drew] at hclx hfrx hltx hsz); (try (have hszl := Nat.lt_of_succ_le hsz)); obtain ⟨hcl, hfr, hlt⟩ := h2) | (obtain ⟨hcl, hfr, hlt, hsz⟩ := after_call hb; (try simp only [World.size_alloc, World.size_setCell, World.size_drew] at hcl hfr hlt hsz))) | (go_at_call 96; refine (l01Gcd_any _ _ _ (crd_tn0 HX.out) (crd_tn0 HY.out)).mono ?_; rintro e wn ⟨rfl, rfl⟩))
  refine bodyPost_ret (v := .tuple #[.agg #[.int .i64 0, .int .i64 0], .int .i64 5]) (by simp (maxDischargeDepth := 8) [results, Try.results20, go_sem, *]) rfl ?_
  exact ⟨rfl, by (repeat' (first | (with_reducible exact Below.refl _ _) | (with_reducible refine Below.alloc ?_ ?_ _) | (with_reducible refine Below.setCell ?_ ?_ _) | (with_reducible refine Below.drew ?_) | (with_reducible refine below_drewN ?_ _) | (with_reducible assumption) | (with_reducible refine below_after (by with_reducible assumption) ?_) | go_size))⟩
theorem spec_MateOf_yes (x0 y0 X Y : Int) (w : World) (k0 : isPt (x0, y0) = true) (hg : gcdI x0 y0 = 1)
    (hB : ∀ w, Calls Try.prog 97 #[.agg #[.int .i64 x0, .int .i64 y0]] w fun e w' => e = .returned (.agg #[.int .i64 X, .int .i64 Y]) ∧ Below w.heap.size w w') :
    Calls Try.prog 20 #[.agg #[.int .i64 x0, .int .i64 y0]] w fun e w' => e = .returned (.tuple #[.agg #[.int .i64 X, .int .i64 Y], .int .i64 0]) ∧ Below w.heap.size w w' := by
  have HX := Lib.hid (isPt_c1 k0)
  have HY := Lib.hid (isPt_c2 k0)
  have HB := Lib.hid hB
  clear hB
  have hs20 : w.heap.size < w.heap.size + 1 + 1 := (by omega)
  go_enter Try.func20, Try.ntmps20
  go_wp2_with (first | (go_at_call 95; refine (l01Is_any _ _ _).mono ?_; rintro e wn ⟨rfl, hb⟩; first | (have h2 := after_call2 hb hcl hfr hlt (by ((repeat' (first | (with_reducible exact Below.refl _ _) | (with_reducible refine Below.alloc ?_ ?_ _) | (with_reducible refine Below.setCell ?_ ?_ _) | (with_reducible refine Below.drew ?_) | (with_reducible refine below_drewN ?_ _) | (with_reducible assumption) | (with_reducible refine below_after (by with_reducible assumption) ?_) | go_size)); done)); obtain ⟨hclx, hfrx, hltx, hsz⟩ := after_call hb; (try simp only [World.size_alloc, World.size_setCell, World.size_drew] at hclx hfrx hltx hsz); (try (have hszl := Nat.lt_of_succ_le hsz)); obtain ⟨hcl, hfr, hlt⟩ := h2) | (obtain ⟨hcl, hfr, hlt, hsz⟩ := after_call hb; (try simp only [World.size_alloc, World.size_setCell, World.size_drew] at hcl hfr hlt hsz))) | (go_at_call 96; refine (l01Gcd_any _ _ _ (crd_tn0 HX.out) (crd_tn0 HY.out)).mono ?_; rintro e wn ⟨rfl, rfl⟩) | (go_at_call 97; refine (HB.out _).mono ?_; rintro e wn ⟨rfl, hb⟩; first | (have h2 := after_call2 hb hcl hfr hlt (by ((repeat' (first | (with_reducible exact Below.refl _ _) | (with_reducible refine Below.alloc ?_ ?_ _) | (with_reducible refine Below.setCell ?_ ?_ _) | (with_reducible refine Below.drew ?_) | (with_reducible refine below_drewN ?_ _) | (with_reducible assumption) | (with_reducible refine below_after (by with_reducible assumption) ?_) | go_size)); done)); obtain ⟨hclx, hfrx, hltx, hsz⟩ := after_call hb; (try simp only [World.size_alloc, World.size_setCell, World.size_drew] at hclx hfrx hltx hsz); (try (have hszl := Nat.lt_of_succ_le hsz)); obtain ⟨hcl, hfr, hlt⟩ := h2) | (obtain ⟨hcl, hfr, hlt, hsz⟩ := after_call hb; (try simp only [World.size_alloc, World.size_setCell, World.size_drew] at hcl hfr hlt hsz))))
  refine bodyPost_ret (v := .tuple #[.agg #[.int .i64 X, .int .i64 Y], .int .i64 0]) (by simp (maxDischargeDepth := 8) [results, Try.results20, go_sem, *]) rfl ?_
  exact ⟨rfl, by (repeat' (first | (with_reducible exact Below.refl _ _) | (with_reducible refine Below.alloc ?_ ?_ _) | (with_reducible refine Below.setCell ?_ ?_ _) | (with_reducible refine Below.drew ?_) | (with_reducible refine below_drewN ?_ _) | (with_reducible assumption) | (with_reducible refine below_after (by with_reducible assumption) ?_) | go_size))⟩

theorem both_LengthOf (x0 y0 x1 y1 : Int) : ∃ v c : Int, (∀ w, Calls Try.prog 17 #[.agg #[.int .i64 x0, .int .i64 y0], .agg #[.int .i64 x1, .int .i64 y1]] w fun e w' => e = .returned (.tuple #[.int .i64 v, .int .i64 c]) ∧ Below w.heap.size w w') ∧ (∀ w, Calls Try.prog 36 #[.agg #[.int .i64 x0, .int .i64 y0], .agg #[.int .i64 x1, .int .i64 y1]] w fun e w' => e = .returned (.tuple #[.int .i64 v, .int .i64 c]) ∧ Below w.heap.size w w') ∧ ((isPt (x0, y0) && isPt (x1, y1)) = true → c = 0 ∧ v = lenP (x0, y0) (x1, y1)) := by
  cases hn : (isPt (x0, y0) && isPt (x1, y1))
  · exact ⟨0, 1, fun w => impl_LengthOf_no _ _ _ _ w hn, fun w => spec_LengthOf_no _ _ _ _ w hn, fun h => by cases h⟩
  · have h := hn
    simp only [Bool.and_eq_true] at h
    exact ⟨_, 0, fun w => impl_LengthOf_yes _ _ _ _ w h.1 h.2, fun w => spec_LengthOf_yes _ _ _ _ w h.1 h.2, fun _ => ⟨rfl, rfl⟩⟩
theorem both_AreaOf (x0 y0 x1 y1 x2 y2 : Int) : ∃ v c : Int, (∀ w, Calls Try.prog 11 #[.agg #[.int .i64 x0, .int .i64 y0], .agg #[.int .i64 x1, .int .i64 y1], .agg #[.int .i64 x2, .int .i64 y2]] w fun e w' => e = .returned (.tuple #[.int .i64 v, .int .i64 c]) ∧ Below w.heap.size w w') ∧ (∀ w, Calls Try.prog 12 #[.agg #[.int .i64 x0, .int .i64 y0], .agg #[.int .i64 x1, .int .i64 y1], .agg #[.int .i64 x2, .int .i64 y2]] w fun e w' => e = .returned (.tuple #[.int .i64 v, .int .i64 c]) ∧ Below w.heap.size w w') ∧ ((isPt (x0, y0) && isPt (x1, y1) && isPt (x2, y2)) = true → c = 0 ∧ v = areaP (x0, y0) (x1, y1) (x2, y2)) := by
  cases hn : (isPt (x0, y0) && isPt (x1, y1) && isPt (x2, y2))
  · exact ⟨0, 1, fun w => impl_AreaOf_no _ _ _ _ _ _ w hn, fun w => spec_AreaOf_no _ _ _ _ _ _ w hn, fun h => by cases h⟩
  · have h := hn
    simp only [Bool.and_eq_true] at h
    exact ⟨_, 0, fun w => impl_AreaOf_yes _ _ _ _ _ _ w h.1.1 h.1.2 h.2, fun w => spec_AreaOf_yes _ _ _ _ _ _ w h.1.1 h.1.2 h.2, fun _ => ⟨rfl, rfl⟩⟩
theorem both_DistanceOf (x0 y0 x1 y1 x2 y2 : Int) : ∃ v c : Int, (∀ w, Calls Try.prog 23 #[.agg #[.int .i64 x0, .int .i64 y0], .agg #[.int .i64 x1, .int .i64 y1], .agg #[.int .i64 x2, .int .i64 y2]] w fun e w' => e = .returned (.tuple #[.int .i64 v, .int .i64 c]) ∧ Below w.heap.size w w') ∧ (∀ w, Calls Try.prog 24 #[.agg #[.int .i64 x0, .int .i64 y0], .agg #[.int .i64 x1, .int .i64 y1], .agg #[.int .i64 x2, .int .i64 y2]] w fun e w' => e = .returned (.tuple #[.int .i64 v, .int .i64 c]) ∧ Below w.heap.size w w') ∧ (c = 0 → (isPt (x0, y0) && isPt (x1, y1) && isPt (x2, y2)) = true ∧ 1 ≤ lenP (x0, y0) (x1, y1) ∧ v = IntKind.i64.wrap ((areaP (x0, y0) (x1, y1) (x2, y2)).tdiv (lenP (x0, y0) (x1, y1)))) := by
  cases hn : (isPt (x0, y0) && isPt (x1, y1) && isPt (x2, y2))
  · exact ⟨0, 1, fun w => impl_DistanceOf_no _ _ _ _ _ _ w hn, fun w => spec_DistanceOf_no _ _ _ _ _ _ w hn, fun h => by cases h⟩
  · have h := hn
    simp only [Bool.and_eq_true] at h
    cases hz : (x0 == x1 && y0 == y1)
    · have hl := lenP_pos (a := (x0, y0)) (b := (x1, y1)) (by simpa using hz)
      exact ⟨_, 0, fun w => impl_DistanceOf_yes _ _ _ _ _ _ w h.1.1 h.1.2 h.2 hz hl, fun w => spec_DistanceOf_yes _ _ _ _ _ _ w h.1.1 h.1.2 h.2 hz hl, fun _ => ⟨rfl, hl, rfl⟩⟩
    · simp only [Bool.and_eq_true, beq_iff_eq] at hz
      obtain ⟨rfl, rfl⟩ := hz
      exact ⟨0, 5, fun w => impl_DistanceOf_same _ _ _ _ w h.1.1 h.2, fun w => spec_DistanceOf_same _ _ _ _ w h.1.1 h.2, fun h => by cases h⟩
theorem both_PrimitiveOf (x0 y0 : Int) : ∃ x y c : Int, (∀ w, Calls Try.prog 26 #[.agg #[.int .i64 x0, .int .i64 y0]] w fun e w' => e = .returned (.tuple #[.agg #[.int .i64 x, .int .i64 y], .int .i64 c]) ∧ Below w.heap.size w w') ∧ (∀ w, Calls Try.prog 27 #[.agg #[.int .i64 x0, .int .i64 y0]] w fun e w' => e = .returned (.tuple #[.agg #[.int .i64 x, .int .i64 y], .int .i64 c]) ∧ Below w.heap.size w w') := by
  cases hn : isPt (x0, y0)
  · exact ⟨0, 0, 1, fun w => impl_PrimitiveOf_no _ _ w hn, fun w => spec_PrimitiveOf_no _ _ w hn⟩
  · cases hz : (x0 == 0 && y0 == 0)
    · exact ⟨_, _, 0, fun w => impl_PrimitiveOf_yes _ _ w hn hz, fun w => spec_PrimitiveOf_yes _ _ w hn hz⟩
    · simp only [Bool.and_eq_true, beq_iff_eq] at hz
      obtain ⟨rfl, rfl⟩ := hz
      exact ⟨0, 0, 5, fun w => impl_PrimitiveOf_zero w, fun w => spec_PrimitiveOf_zero w⟩
theorem both_AddPoints (x0 y0 x1 y1 k : Int) : ∃ x y c : Int, (∀ w, Calls Try.prog 29 #[.agg #[.int .i64 x0, .int .i64 y0], .agg #[.int .i64 x1, .int .i64 y1], .int .i64 k] w fun e w' => e = .returned (.tuple #[.agg #[.int .i64 x, .int .i64 y], .int .i64 c]) ∧ Below w.heap.size w w') ∧ (∀ w, Calls Try.prog 30 #[.agg #[.int .i64 x0, .int .i64 y0], .agg #[.int .i64 x1, .int .i64 y1], .int .i64 k] w fun e w' => e = .returned (.tuple #[.agg #[.int .i64 x, .int .i64 y], .int .i64 c]) ∧ Below w.heap.size w w') := by
  cases hn : (isPt (x0, y0) && isPt (x1, y1))
  · exact ⟨0, 0, 1, fun w => impl_AddPoints_no _ _ _ _ _ w hn, fun w => spec_AddPoints_no _ _ _ _ _ w hn⟩
  · simp only [Bool.and_eq_true] at hn
    cases hk : crd k
    · exact ⟨0, 0, 2, fun w => impl_AddPoints_range _ _ _ _ _ w hn.1 hn.2 hk, fun w => spec_AddPoints_range _ _ _ _ _ w hn.1 hn.2 hk⟩
    · cases hs : isPt (x0 + k * x1, y0 + k * y1)
      · exact ⟨0, 0, 3, fun w => impl_AddPoints_limit _ _ _ _ _ w hn.1 hn.2 hk hs, fun w => spec_AddPoints_limit _ _ _ _ _ w hn.1 hn.2 hk hs⟩
      · exact ⟨_, _, 0, fun w => impl_AddPoints_yes _ _ _ _ _ w hn.1 hn.2 hk hs, fun w => spec_AddPoints_yes _ _ _ _ _ w hn.1 hn.2 hk hs⟩
theorem both_ApplyMatrix (a b c d x y : Int) : ∃ X Y k : Int, (∀ w, Calls Try.prog 16 #[.agg #[.int .i64 a, .int .i64 b, .int .i64 c, .int .i64 d], .agg #[.int .i64 x, .int .i64 y]] w fun e w' => e = .returned (.tuple #[.agg #[.int .i64 X, .int .i64 Y], .int .i64 k]) ∧ Below w.heap.size w w') ∧ (∀ w, Calls Try.prog 32 #[.agg #[.int .i64 a, .int .i64 b, .int .i64 c, .int .i64 d], .agg #[.int .i64 x, .int .i64 y]] w fun e w' => e = .returned (.tuple #[.agg #[.int .i64 X, .int .i64 Y], .int .i64 k]) ∧ Below w.heap.size w w') ∧ (k = 0 → isMx a b c d = true ∧ isPt (x, y) = true ∧ isPt (X, Y) = true ∧ X = a * x + b * y ∧ Y = c * x + d * y) ∧ (isMx a b c d = true → isPt (x, y) = true → isPt (a * x + b * y, c * x + d * y) = true → k = 0) := by
  cases hn : (isMx a b c d && isPt (x, y))
  · exact ⟨0, 0, 1, fun w => impl_ApplyMatrix_no _ _ _ _ _ _ w hn, fun w => spec_ApplyMatrix_no _ _ _ _ _ _ w hn, fun h => (by cases h), fun h1 h2 => (by rw [h1, h2] at hn; cases hn)⟩
  · simp only [Bool.and_eq_true] at hn
    cases hi : isPt (img a b c d x y)
    · exact ⟨0, 0, 3, fun w => impl_ApplyMatrix_limit _ _ _ _ _ _ w hn.1 hn.2 hi, fun w => spec_ApplyMatrix_limit _ _ _ _ _ _ w hn.1 hn.2 hi, fun h => (by cases h), fun _ _ h3 => (by have h3 : isPt (img a b c d x y) = true := h3; rw [hi] at h3; cases h3)⟩
    · exact ⟨_, _, 0, fun w => impl_ApplyMatrix_yes _ _ _ _ _ _ w hn.1 hn.2 hi, fun w => spec_ApplyMatrix_yes _ _ _ _ _ _ w hn.1 hn.2 hi, fun _ => ⟨hn.1, hn.2, hi, rfl, rfl⟩, fun _ _ _ => rfl⟩
theorem both_MultiplyMatrices (a b c d e f g h : Int) : ∃ X Y Z V k : Int, (∀ w, Calls Try.prog 15 #[.agg #[.int .i64 a, .int .i64 b, .int .i64 c, .int .i64 d], .agg #[.int .i64 e, .int .i64 f, .int .i64 g, .int .i64 h]] w fun e w' => e = .returned (.tuple #[.agg #[.int .i64 X, .int .i64 Y, .int .i64 Z, .int .i64 V], .int .i64 k]) ∧ Below w.heap.size w w') ∧ (∀ w, Calls Try.prog 34 #[.agg #[.int .i64 a, .int .i64 b, .int .i64 c, .int .i64 d], .agg #[.int .i64 e, .int .i64 f, .int .i64 g, .int .i64 h]] w fun e w' => e = .returned (.tuple #[.agg #[.int .i64 X, .int .i64 Y, .int .i64 Z, .int .i64 V], .int .i64 k]) ∧ Below w.heap.size w w') ∧ (isMx a b c d = true → isMx e f g h = true → isMx (a * e + b * g) (a * f + b * h) (c * e + d * g) (c * f + d * h) = true → k = 0 ∧ X = a * e + b * g ∧ Y = a * f + b * h ∧ Z = c * e + d * g ∧ V = c * f + d * h) := by
  cases hn : (isMx a b c d && isMx e f g h)
  · exact ⟨0, 0, 0, 0, 1, fun w => impl_MultiplyMatrices_no _ _ _ _ _ _ _ _ w hn, fun w => spec_MultiplyMatrices_no _ _ _ _ _ _ _ _ w hn, fun h1 h2 => by rw [h1, h2] at hn; cases hn⟩
  · simp only [Bool.and_eq_true] at hn
    cases hi : isMx (a * e + b * g) (a * f + b * h) (c * e + d * g) (c * f + d * h)
    · exact ⟨0, 0, 0, 0, 3, fun w => impl_MultiplyMatrices_limit _ _ _ _ _ _ _ _ w hn.1 hn.2 hi, fun w => spec_MultiplyMatrices_limit _ _ _ _ _ _ _ _ w hn.1 hn.2 hi, fun _ _ h3 => by cases h3⟩
    · exact ⟨_, _, _, _, 0, fun w => impl_MultiplyMatrices_yes _ _ _ _ _ _ _ _ w hn.1 hn.2 hi, fun w => spec_MultiplyMatrices_yes _ _ _ _ _ _ _ _ w hn.1 hn.2 hi, fun _ _ _ => ⟨rfl, rfl, rfl, rfl, rfl⟩⟩
theorem both_InverseMatrix (a b c d : Int) : ∃ X Y Z V k : Int, (∀ w, Calls Try.prog 8 #[.agg #[.int .i64 a, .int .i64 b, .int .i64 c, .int .i64 d]] w fun e w' => e = .returned (.tuple #[.agg #[.int .i64 X, .int .i64 Y, .int .i64 Z, .int .i64 V], .int .i64 k]) ∧ Below w.heap.size w w') ∧ (∀ w, Calls Try.prog 9 #[.agg #[.int .i64 a, .int .i64 b, .int .i64 c, .int .i64 d]] w fun e w' => e = .returned (.tuple #[.agg #[.int .i64 X, .int .i64 Y, .int .i64 Z, .int .i64 V], .int .i64 k]) ∧ Below w.heap.size w w') ∧ (k = 0 → isMx a b c d = true ∧ ∃ D : Int, (D = 1 ∨ D = -1) ∧ a * d - b * c = D ∧ X = D * d ∧ Y = -D * b ∧ Z = -D * c ∧ V = D * a) := by
  cases hm : isMx a b c d
  · exact ⟨0, 0, 0, 0, 1, fun w => impl_InverseMatrix_no _ _ _ _ w hm, fun w => spec_InverseMatrix_no _ _ _ _ w hm, fun h => by cases h⟩
  · by_cases hu : detP (a, b) (c, d) = 1 ∨ detP (a, b) (c, d) = -1
    · exact ⟨_, _, _, _, 0, fun w => impl_InverseMatrix_yes _ _ _ _ w hm hu, fun w => spec_InverseMatrix_yes _ _ _ _ w hm hu, fun _ => ⟨rfl, detP (a, b) (c, d), hu, rfl, rfl, rfl, rfl, rfl⟩⟩
    · exact ⟨0, 0, 0, 0, 5, fun w => impl_InverseMatrix_state _ _ _ _ w hm hu, fun w => spec_InverseMatrix_state _ _ _ _ w hm hu, fun h => by cases h⟩
theorem both_MateOf (x0 y0 : Int) : ∃ x y c : Int, (∀ w, Calls Try.prog 19 #[.agg #[.int .i64 x0, .int .i64 y0]] w fun e w' => e = .returned (.tuple #[.agg #[.int .i64 x, .int .i64 y], .int .i64 c]) ∧ Below w.heap.size w w') ∧ (∀ w, Calls Try.prog 20 #[.agg #[.int .i64 x0, .int .i64 y0]] w fun e w' => e = .returned (.tuple #[.agg #[.int .i64 x, .int .i64 y], .int .i64 c]) ∧ Below w.heap.size w w') ∧ (c = 0 → isPt (x0, y0) = true ∧ isPt (x, y) = true ∧ detP (x0, y0) (x, y) = 1) := by
  cases hn : isPt (x0, y0)
  · exact ⟨0, 0, 1, fun w => impl_MateOf_no _ _ w hn, fun w => spec_MateOf_no _ _ w hn, fun h => by cases h⟩
  · by_cases hg : gcdI x0 y0 = 1
    · obtain ⟨hd, hp⟩ := mateI_ok hn hg
      exact ⟨(mateI x0 y0).1, (mateI x0 y0).2, 0, fun w => MateOf_mate x0 y0 w hn hg, fun w => spec_MateOf_yes _ _ _ _ w hn hg (fun w => l01Base_mate x0 y0 w hn hg), fun _ => ⟨rfl, hp, hd⟩⟩
    · exact ⟨0, 0, 5, fun w => impl_MateOf_state _ _ w hn hg, fun w => spec_MateOf_state _ _ w hn hg, fun h => by cases h⟩
end Go.Proofs.Ytoenlpkphekbnaa
