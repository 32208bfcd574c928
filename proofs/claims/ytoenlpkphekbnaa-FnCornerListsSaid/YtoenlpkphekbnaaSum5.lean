/-
  Contract of chapter 2's SumOfCorners in the model, all cases (own work).
-/
import Derived.Test.YtoenlpkphekbnaaSum4
namespace Go.Proofs.Ytoenlpkphekbnaa
open Go.ChangeShapes Go.WideShapes Go.ChangeAt Go.RowKit
set_option linter.unusedVariables false
set_option maxRecDepth 100000
set_option linter.unusedSimpArgs false
set_option maxHeartbeats 3200000 in
theorem spec_Sum_err (a b c d e f g h n k r : Int) (w : World) (hR : c2C a b c d e f g h = k) (hV : smV a b c d e f g h n = .tuple #[.agg #[.int .i64 0, .int .i64 0, .int .i64 0, .int .i64 0], .int .i64 r]) (hk : (k = 1 ∧ r = 1) ∨ ((k = 0 ∨ k = 3) ∧ crd n = false ∧ r = 2) ∨ (k = 3 ∧ crd n = true ∧ r = 3)) : Calls Try.prog 70 #[.agg #[.int .i64 a, .int .i64 b, .int .i64 c, .int .i64 d], .agg #[.int .i64 e, .int .i64 f, .int .i64 g, .int .i64 h], .int .i64 n] w fun en w' => en = .returned (smV a b c d e f g h n) ∧ Below w.heap.size w w' := by
  rw [hV]
  rcases hk with ⟨rfl, rfl⟩ | ⟨rfl | rfl, l, rfl⟩ | ⟨rfl, l, rfl⟩
  · have HR := Lib.hid hR
    clear hR hV
    have hs20 : w.heap.size < w.heap.size + 1 + 1 := (by omega); have hs30 : w.heap.size < w.heap.size + 1 + 1 + 1 := (by omega); have hs31 : w.heap.size + 1 < w.heap.size + 1 + 1 + 1 := (by omega)
    go_enter Try.func70, Try.ntmps70
    go_wp2_with (first | (go_at_call 114; refine (l02Code2_c a b c d e f g h _ _ _ (by simp) (by go_cell) (by go_cell) (by go_cell) (by go_cell) (by go_cell) (by go_cell) (by go_cell) (by go_cell)).mono ?_; rw [HR.out]; rintro en wn ⟨rfl, hb⟩; obtain ⟨hcl, hfr, hlt, hsz⟩ := after_call hb; (try simp only [World.size_alloc, World.size_setCell, World.size_drew] at hcl hfr hlt hsz)) | (go_at_call 103; refine (fits_any _ _).mono ?_; rintro e wn ⟨rfl, rfl⟩))
    refine bodyPost_ret (v := .tuple #[.agg #[.int .i64 0, .int .i64 0, .int .i64 0, .int .i64 0], .int .i64 1]) (by simp (maxDischargeDepth := 8) [results, Try.results70, go_sem, *]) rfl ?_
    exact ⟨rfl, by (repeat' (first | (with_reducible exact Below.refl _ _) | (with_reducible refine Below.alloc ?_ ?_ _) | (with_reducible refine Below.setCell ?_ ?_ _) | (with_reducible refine Below.drew ?_) | (with_reducible refine below_drewN ?_ _) | (with_reducible assumption) | (with_reducible refine below_after (by with_reducible assumption) ?_) | go_size))⟩
  · have HR := Lib.hid hR
    clear hR hV
    have hs20 : w.heap.size < w.heap.size + 1 + 1 := (by omega); have hs30 : w.heap.size < w.heap.size + 1 + 1 + 1 := (by omega); have hs31 : w.heap.size + 1 < w.heap.size + 1 + 1 + 1 := (by omega)
    go_enter Try.func70, Try.ntmps70
    go_wp2_with (first | (go_at_call 114; refine (l02Code2_c a b c d e f g h _ _ _ (by simp) (by go_cell) (by go_cell) (by go_cell) (by go_cell) (by go_cell) (by go_cell) (by go_cell) (by go_cell)).mono ?_; rw [HR.out]; rintro en wn ⟨rfl, hb⟩; obtain ⟨hcl, hfr, hlt, hsz⟩ := after_call hb; (try simp only [World.size_alloc, World.size_setCell, World.size_drew] at hcl hfr hlt hsz)) | (go_at_call 103; refine (fits_any _ _).mono ?_; rintro e wn ⟨rfl, rfl⟩))
    refine bodyPost_ret (v := .tuple #[.agg #[.int .i64 0, .int .i64 0, .int .i64 0, .int .i64 0], .int .i64 2]) (by simp (maxDischargeDepth := 8) [results, Try.results70, go_sem, *]) rfl ?_
    exact ⟨rfl, by (repeat' (first | (with_reducible exact Below.refl _ _) | (with_reducible refine Below.alloc ?_ ?_ _) | (with_reducible refine Below.setCell ?_ ?_ _) | (with_reducible refine Below.drew ?_) | (with_reducible refine below_drewN ?_ _) | (with_reducible assumption) | (with_reducible refine below_after (by with_reducible assumption) ?_) | go_size))⟩
  · have HR := Lib.hid hR
    clear hR hV
    have hs20 : w.heap.size < w.heap.size + 1 + 1 := (by omega); have hs30 : w.heap.size < w.heap.size + 1 + 1 + 1 := (by omega); have hs31 : w.heap.size + 1 < w.heap.size + 1 + 1 + 1 := (by omega)
    go_enter Try.func70, Try.ntmps70
    go_wp2_with (first | (go_at_call 114; refine (l02Code2_c a b c d e f g h _ _ _ (by simp) (by go_cell) (by go_cell) (by go_cell) (by go_cell) (by go_cell) (by go_cell) (by go_cell) (by go_cell)).mono ?_; rw [HR.out]; rintro en wn ⟨rfl, hb⟩; obtain ⟨hcl, hfr, hlt, hsz⟩ := after_call hb; (try simp only [World.size_alloc, World.size_setCell, World.size_drew] at hcl hfr hlt hsz)) | (go_at_call 103; refine (fits_any _ _).mono ?_; rintro e wn ⟨rfl, rfl⟩))
    refine bodyPost_ret (v := .tuple #[.agg #[.int .i64 0, .int .i64 0, .int .i64 0, .int .i64 0], .int .i64 2]) (by simp (maxDischargeDepth := 8) [results, Try.results70, go_sem, *]) rfl ?_
    exact ⟨rfl, by (repeat' (first | (with_reducible exact Below.refl _ _) | (with_reducible refine Below.alloc ?_ ?_ _) | (with_reducible refine Below.setCell ?_ ?_ _) | (with_reducible refine Below.drew ?_) | (with_reducible refine below_drewN ?_ _) | (with_reducible assumption) | (with_reducible refine below_after (by with_reducible assumption) ?_) | go_size))⟩
  · have HR := Lib.hid hR
    clear hR hV
    have hs20 : w.heap.size < w.heap.size + 1 + 1 := (by omega); have hs30 : w.heap.size < w.heap.size + 1 + 1 + 1 := (by omega); have hs31 : w.heap.size + 1 < w.heap.size + 1 + 1 + 1 := (by omega)
    go_enter Try.func70, Try.ntmps70
    go_wp2_with (first | (go_at_call 114; refine (l02Code2_c a b c d e f g h _ _ _ (by simp) (by go_cell) (by go_cell) (by go_cell) (by go_cell) (by go_cell) (by go_cell) (by go_cell) (by go_cell)).mono ?_; rw [HR.out]; rintro en wn ⟨rfl, hb⟩; obtain ⟨hcl, hfr, hlt, hsz⟩ := after_call hb; (try simp only [World.size_alloc, World.size_setCell, World.size_drew] at hcl hfr hlt hsz)) | (go_at_call 103; refine (fits_any _ _).mono ?_; rintro e wn ⟨rfl, rfl⟩))
    refine bodyPost_ret (v := .tuple #[.agg #[.int .i64 0, .int .i64 0, .int .i64 0, .int .i64 0], .int .i64 3]) (by simp (maxDischargeDepth := 8) [results, Try.results70, go_sem, *]) rfl ?_
    exact ⟨rfl, by (repeat' (first | (with_reducible exact Below.refl _ _) | (with_reducible refine Below.alloc ?_ ?_ _) | (with_reducible refine Below.setCell ?_ ?_ _) | (with_reducible refine Below.drew ?_) | (with_reducible refine below_drewN ?_ _) | (with_reducible assumption) | (with_reducible refine below_after (by with_reducible assumption) ?_) | go_size))⟩
theorem spec_SumOfCorners_any (a b c d e f g h n : Int) (w : World) : Calls Try.prog 70 #[.agg #[.int .i64 a, .int .i64 b, .int .i64 c, .int .i64 d], .agg #[.int .i64 e, .int .i64 f, .int .i64 g, .int .i64 h], .int .i64 n] w fun en w' => en = .returned (smV a b c d e f g h n) ∧ Below w.heap.size w w' := by
  cases k1 : isCr a b c d
  · exact spec_Sum_err a b c d e f g h n 1 1 w (by unfold c2C; simp [k1]) (smV_err (smC_1a k1) (by decide)) (Or.inl ⟨rfl, rfl⟩)
  cases k2 : isCr e f g h
  · exact spec_Sum_err a b c d e f g h n 1 1 w (by unfold c2C; simp [k2]) (smV_err (smC_1b k2) (by decide)) (Or.inl ⟨rfl, rfl⟩)
  cases l : crd n
  · by_cases mm : fitC a b c d = true ∧ fitC e f g h = true
    · exact spec_Sum_err a b c d e f g h n 0 2 w (by unfold c2C; rw [if_pos ⟨k1, k2⟩, if_pos mm]) (smV_err (smC_2 k1 k2 l) (by decide)) (Or.inr (Or.inl ⟨Or.inl rfl, l, rfl⟩))
    · exact spec_Sum_err a b c d e f g h n 3 2 w (by unfold c2C; rw [if_pos ⟨k1, k2⟩, if_neg mm]) (smV_err (smC_2 k1 k2 l) (by decide)) (Or.inr (Or.inl ⟨Or.inr rfl, l, rfl⟩))
  cases m : fitC a b c d
  · exact spec_Sum_err a b c d e f g h n 3 3 w (by unfold c2C; simp [k1, k2, m]) (smV_err (smC_3a k1 k2 l m) (by decide)) (Or.inr (Or.inr ⟨rfl, l, rfl⟩))
  cases m2 : fitC e f g h
  · exact spec_Sum_err a b c d e f g h n 3 3 w (by unfold c2C; simp [k1, k2, m2]) (smV_err (smC_3b k1 k2 l m2) (by decide)) (Or.inr (Or.inr ⟨rfl, l, rfl⟩))
  · exact spec_Sum_main a b c d e f g h n w k1 k2 l m m2
end Go.Proofs.Ytoenlpkphekbnaa
