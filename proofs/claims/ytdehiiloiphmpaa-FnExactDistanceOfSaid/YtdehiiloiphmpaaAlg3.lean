/-
  Contracts of chapter 1's AreaOf, LengthOf, DistanceOf, PrimitiveOf, AddPoints in the model and in the program (own work).
-/
import Derived.Test.YtdehiiloiphmpaaAlg2
namespace Go.Proofs.Ytdehiiloiphmpaa
open Go.ChangeShapes Go.WideShapes Go.ChangeAt Go.RowKit
set_option linter.unusedVariables false
set_option linter.unusedSimpArgs false

theorem det_tn {x0 y0 x1 y1 x2 y2 : Int} (k0 : isPt (x0, y0) = true) (k1 : isPt (x1, y1) = true) (k2 : isPt (x2, y2) = true) : Tn (detP (x1 - x0, y1 - y0) (x2 - x0, y2 - y0)) := by
  have := isPt_c1 k0; have := isPt_c2 k0; have := isPt_c1 k1; have := isPt_c2 k1; have := isPt_c1 k2; have := isPt_c2 k2
  have m1 := mul_bd (A := 2000000) (B := 2000000) (a := x1 - x0) (b := y2 - y0) (by omega) (by omega) (by omega) (by omega)
  have m2 := mul_bd (A := 2000000) (B := 2000000) (a := y1 - y0) (b := x2 - x0) (by omega) (by omega) (by omega) (by omega)
  unfold Tn detP
  dsimp only
  omega


theorem l01Area_any (x0 y0 x1 y1 x2 y2 : Int) (w : World) (k0 : isPt (x0, y0) = true) (k1 : isPt (x1, y1) = true) (k2 : isPt (x2, y2) = true) :
    Calls Try.prog 64 #[.agg #[.int .i64 x0, .int .i64 y0], .agg #[.int .i64 x1, .int .i64 y1], .agg #[.int .i64 x2, .int .i64 y2]] w fun e w' => e = .returned (.int .i64 (areaP (x0, y0) (x1, y1) (x2, y2))) ∧ Below w.heap.size w w' := by
  obtain ⟨hd1, hd2⟩ := det_tn k0 k1 k2
  have H0 := Lib.hid k0
  have H1 := Lib.hid k1
  have H2 := Lib.hid k2
  clear k0 k1 k2
  have hs20 : w.heap.size < w.heap.size + 1 + 1 := (by omega); have hs30 : w.heap.size < w.heap.size + 1 + 1 + 1 := (by omega); have hs31 : w.heap.size + 1 < w.heap.size + 1 + 1 + 1 := (by omega)
  go_enter Try.func64, Try.ntmps64
  go_wp2_with fail
  go_region_held3 (fun W => W.cell? ⟨w.heap.size, 0, none⟩ = some (.int .i64 x0) ∧ W.cell? ⟨w.heap.size, 1, none⟩ = some (.int .i64 y0) ∧ W.cell? ⟨w.heap.size + 1, 0, none⟩ = some (.int .i64 x1) ∧ W.cell? ⟨w.heap.size + 1, 1, none⟩ = some (.int .i64 y1) ∧ W.cell? ⟨w.heap.size + 1 + 1, 0, none⟩ = some (.int .i64 x2) ∧ W.cell? ⟨w.heap.size + 1 + 1, 1, none⟩ = some (.int .i64 y2) ∧ w.heap.size < W.heap.size ∧ w.heap.size + 1 < W.heap.size ∧ w.heap.size + 1 + 1 < W.heap.size) (first | (go_keep; done) | ((repeat' apply And.intro) <;> first | (go_keep; done) | (go_cell; done) | (simp only [World.size_alloc, World.size_drew, World.size_setCell]; omega) | omega)) (first | (go_at_call 86; refine (l01Plus_minus _ _ _ _ _ (by first | exact isPt_bn1 H1.out | exact isPt_bn1 H2.out) (by first | exact isPt_bn2 H1.out | exact isPt_bn2 H2.out) (isPt_bn1 H0.out) (isPt_bn2 H0.out)).mono ?_; rintro e wn ⟨rfl, hb⟩; first | (have h2 := after_call2 hb hcl hfr hlt (by (repeat' (first | (with_reducible exact Below.refl _ _) | (with_reducible refine Below.alloc ?_ ?_ _) | (with_reducible refine Below.setCell ?_ ?_ _) | (with_reducible refine Below.drew ?_) | (with_reducible refine below_drewN ?_ _) | (with_reducible assumption) | (with_reducible refine below_after (by with_reducible assumption) ?_) | go_size))); obtain ⟨hcl, hfr, hlt⟩ := h2; have hsz := hb.size; try simp only [World.size_alloc, World.size_setCell, World.size_drew] at hsz) | (obtain ⟨hcl, hfr, hlt, hsz⟩ := after_call hb; try simp only [World.size_alloc, World.size_setCell, World.size_drew] at hcl hfr hlt hsz)) | (go_at_call 90; refine (l01Det_any _ _ _ _ _ (bn_sub (isPt_c1 H1.out) (isPt_c1 H0.out)) (bn_sub (isPt_c2 H1.out) (isPt_c2 H0.out)) (bn_sub (isPt_c1 H2.out) (isPt_c1 H0.out)) (bn_sub (isPt_c2 H2.out) (isPt_c2 H0.out))).mono ?_; rintro e wn ⟨rfl, hb⟩; first | (have h2 := after_call2 hb hcl hfr hlt (by (repeat' (first | (with_reducible exact Below.refl _ _) | (with_reducible refine Below.alloc ?_ ?_ _) | (with_reducible refine Below.setCell ?_ ?_ _) | (with_reducible refine Below.drew ?_) | (with_reducible refine below_drewN ?_ _) | (with_reducible assumption) | (with_reducible refine below_after (by with_reducible assumption) ?_) | go_size))); obtain ⟨hcl, hfr, hlt⟩ := h2; have hsz := hb.size; try simp only [World.size_alloc, World.size_setCell, World.size_drew] at hsz) | (obtain ⟨hcl, hfr, hlt, hsz⟩ := after_call hb; try simp only [World.size_alloc, World.size_setCell, World.size_drew] at hcl hfr hlt hsz)))
  go_wp2
  all_goals
    go_ret
    exact ⟨ret_int (by unfold areaP absI; dsimp only; omega), by (repeat' (first | (with_reducible exact Below.refl _ _) | (with_reducible refine Below.alloc ?_ ?_ _) | (with_reducible refine Below.setCell ?_ ?_ _) | (with_reducible refine Below.drew ?_) | (with_reducible refine below_drewN ?_ _) | (with_reducible assumption) | (with_reducible refine below_after (by with_reducible assumption) ?_) | go_size))⟩

theorem impl_LengthOf_yes (x0 y0 x1 y1 : Int) (w : World) (k0 : isPt (x0, y0) = true) (k1 : isPt (x1, y1) = true) :
    Calls Try.prog 25 #[.agg #[.int .i64 x0, .int .i64 y0], .agg #[.int .i64 x1, .int .i64 y1]] w fun e w' => e = .returned (.tuple #[.int .i64 (lenP (x0, y0) (x1, y1)), .int .i64 0]) ∧ Below w.heap.size w w' := by
  have H0 := Lib.hid k0
  have H1 := Lib.hid k1
  clear k0
  clear k1
  have hs20 : w.heap.size < w.heap.size + 1 + 1 := (by omega); have hs30 : w.heap.size < w.heap.size + 1 + 1 + 1 := (by omega); have hs31 : w.heap.size + 1 < w.heap.size + 1 + 1 + 1 := (by omega)
  go_enter Try.func25, Try.ntmps25
  go_wp2_with (first | (go_at_call 61; refine (arePoints2_yes x0 y0 x1 y1 _ _ _ (by simp) (by go_cell) (by go_cell) (by go_cell) (by go_cell) H0.out H1.out).mono ?_; rintro e wn ⟨rfl, hb⟩; first | (have h2 := after_call2 hb hcl hfr hlt (by (repeat' (first | (with_reducible exact Below.refl _ _) | (with_reducible refine Below.alloc ?_ ?_ _) | (with_reducible refine Below.setCell ?_ ?_ _) | (with_reducible refine Below.drew ?_) | (with_reducible refine below_drewN ?_ _) | (with_reducible assumption) | (with_reducible refine below_after (by with_reducible assumption) ?_) | go_size))); obtain ⟨hcl, hfr, hlt⟩ := h2; have hsz := hb.size; try simp only [World.size_alloc, World.size_setCell, World.size_drew] at hsz) | (obtain ⟨hcl, hfr, hlt, hsz⟩ := after_call hb; try simp only [World.size_alloc, World.size_setCell, World.size_drew] at hcl hfr hlt hsz)) | (go_at_call 67; refine (lengthBetween_any _ _ _ _ _ (isPt_bn1 H0.out) (isPt_bn2 H0.out) (isPt_bn1 H1.out) (isPt_bn2 H1.out)).mono ?_; rintro e wn ⟨rfl, hb⟩; first | (have h2 := after_call2 hb hcl hfr hlt (by (repeat' (first | (with_reducible exact Below.refl _ _) | (with_reducible refine Below.alloc ?_ ?_ _) | (with_reducible refine Below.setCell ?_ ?_ _) | (with_reducible refine Below.drew ?_) | (with_reducible refine below_drewN ?_ _) | (with_reducible assumption) | (with_reducible refine below_after (by with_reducible assumption) ?_) | go_size))); obtain ⟨hcl, hfr, hlt⟩ := h2; have hsz := hb.size; try simp only [World.size_alloc, World.size_setCell, World.size_drew] at hsz) | (obtain ⟨hcl, hfr, hlt, hsz⟩ := after_call hb; try simp only [World.size_alloc, World.size_setCell, World.size_drew] at hcl hfr hlt hsz)))
  go_ret2
  exact ⟨rfl, by (repeat' (first | (with_reducible exact Below.refl _ _) | (with_reducible refine Below.alloc ?_ ?_ _) | (with_reducible refine Below.setCell ?_ ?_ _) | (with_reducible refine Below.drew ?_) | (with_reducible refine below_drewN ?_ _) | (with_reducible assumption) | (with_reducible refine below_after (by with_reducible assumption) ?_) | go_size))⟩
theorem impl_LengthOf_no (x0 y0 x1 y1 : Int) (w : World) (hn : (isPt (x0, y0) && isPt (x1, y1)) = false) :
    Calls Try.prog 25 #[.agg #[.int .i64 x0, .int .i64 y0], .agg #[.int .i64 x1, .int .i64 y1]] w fun e w' => e = .returned (.tuple #[.int .i64 0, .int .i64 1]) ∧ Below w.heap.size w w' := by
  have HN := Lib.hid hn
  clear hn
  have hs20 : w.heap.size < w.heap.size + 1 + 1 := (by omega); have hs30 : w.heap.size < w.heap.size + 1 + 1 + 1 := (by omega); have hs31 : w.heap.size + 1 < w.heap.size + 1 + 1 + 1 := (by omega)
  go_enter Try.func25, Try.ntmps25
  go_wp2_with (first | (go_at_call 61; refine (arePoints2_no x0 y0 x1 y1 _ _ _ (by simp) (by go_cell) (by go_cell) (by go_cell) (by go_cell) HN.out).mono ?_; rintro e wn ⟨rfl, hb⟩; first | (have h2 := after_call2 hb hcl hfr hlt (by (repeat' (first | (with_reducible exact Below.refl _ _) | (with_reducible refine Below.alloc ?_ ?_ _) | (with_reducible refine Below.setCell ?_ ?_ _) | (with_reducible refine Below.drew ?_) | (with_reducible refine below_drewN ?_ _) | (with_reducible assumption) | (with_reducible refine below_after (by with_reducible assumption) ?_) | go_size))); obtain ⟨hcl, hfr, hlt⟩ := h2; have hsz := hb.size; try simp only [World.size_alloc, World.size_setCell, World.size_drew] at hsz) | (obtain ⟨hcl, hfr, hlt, hsz⟩ := after_call hb; try simp only [World.size_alloc, World.size_setCell, World.size_drew] at hcl hfr hlt hsz)))
  go_ret2
  exact ⟨rfl, by (repeat' (first | (with_reducible exact Below.refl _ _) | (with_reducible refine Below.alloc ?_ ?_ _) | (with_reducible refine Below.setCell ?_ ?_ _) | (with_reducible refine Below.drew ?_) | (with_reducible refine below_drewN ?_ _) | (with_reducible assumption) | (with_reducible refine below_after (by with_reducible assumption) ?_) | go_size))⟩

theorem spec_LengthOf_yes (x0 y0 x1 y1 : Int) (w : World) (k0 : isPt (x0, y0) = true) (k1 : isPt (x1, y1) = true) :
    Calls Try.prog 44 #[.agg #[.int .i64 x0, .int .i64 y0], .agg #[.int .i64 x1, .int .i64 y1]] w fun e w' => e = .returned (.tuple #[.int .i64 (lenP (x0, y0) (x1, y1)), .int .i64 0]) ∧ Below w.heap.size w w' := by
  have H0 := Lib.hid k0
  have H1 := Lib.hid k1
  clear k0
  clear k1
  have hs20 : w.heap.size < w.heap.size + 1 + 1 := (by omega); have hs30 : w.heap.size < w.heap.size + 1 + 1 + 1 := (by omega); have hs31 : w.heap.size + 1 < w.heap.size + 1 + 1 + 1 := (by omega)
  go_enter Try.func44, Try.ntmps44
  go_wp2_with (first | (go_at_call 63; refine (l01Code2_yes x0 y0 x1 y1 _ _ _ (by simp) (by go_cell) (by go_cell) (by go_cell) (by go_cell) H0.out H1.out).mono ?_; rintro e wn ⟨rfl, hb⟩; first | (have h2 := after_call2 hb hcl hfr hlt (by (repeat' (first | (with_reducible exact Below.refl _ _) | (with_reducible refine Below.alloc ?_ ?_ _) | (with_reducible refine Below.setCell ?_ ?_ _) | (with_reducible refine Below.drew ?_) | (with_reducible refine below_drewN ?_ _) | (with_reducible assumption) | (with_reducible refine below_after (by with_reducible assumption) ?_) | go_size))); obtain ⟨hcl, hfr, hlt⟩ := h2; have hsz := hb.size; try simp only [World.size_alloc, World.size_setCell, World.size_drew] at hsz) | (obtain ⟨hcl, hfr, hlt, hsz⟩ := after_call hb; try simp only [World.size_alloc, World.size_setCell, World.size_drew] at hcl hfr hlt hsz)) | (go_at_call 79; refine (l01Length_any _ _ _ _ _ (isPt_bn1 H0.out) (isPt_bn2 H0.out) (isPt_bn1 H1.out) (isPt_bn2 H1.out)).mono ?_; rintro e wn ⟨rfl, hb⟩; first | (have h2 := after_call2 hb hcl hfr hlt (by (repeat' (first | (with_reducible exact Below.refl _ _) | (with_reducible refine Below.alloc ?_ ?_ _) | (with_reducible refine Below.setCell ?_ ?_ _) | (with_reducible refine Below.drew ?_) | (with_reducible refine below_drewN ?_ _) | (with_reducible assumption) | (with_reducible refine below_after (by with_reducible assumption) ?_) | go_size))); obtain ⟨hcl, hfr, hlt⟩ := h2; have hsz := hb.size; try simp only [World.size_alloc, World.size_setCell, World.size_drew] at hsz) | (obtain ⟨hcl, hfr, hlt, hsz⟩ := after_call hb; try simp only [World.size_alloc, World.size_setCell, World.size_drew] at hcl hfr hlt hsz)))
  go_ret2
  exact ⟨rfl, by (repeat' (first | (with_reducible exact Below.refl _ _) | (with_reducible refine Below.alloc ?_ ?_ _) | (with_reducible refine Below.setCell ?_ ?_ _) | (with_reducible refine Below.drew ?_) | (with_reducible refine below_drewN ?_ _) | (with_reducible assumption) | (with_reducible refine below_after (by with_reducible assumption) ?_) | go_size))⟩
theorem spec_LengthOf_no (x0 y0 x1 y1 : Int) (w : World) (hn : (isPt (x0, y0) && isPt (x1, y1)) = false) :
    Calls Try.prog 44 #[.agg #[.int .i64 x0, .int .i64 y0], .agg #[.int .i64 x1, .int .i64 y1]] w fun e w' => e = .returned (.tuple #[.int .i64 0, .int .i64 1]) ∧ Below w.heap.size w w' := by
  have HN := Lib.hid hn
  clear hn
  have hs20 : w.heap.size < w.heap.size + 1 + 1 := (by omega); have hs30 : w.heap.size < w.heap.size + 1 + 1 + 1 := (by omega); have hs31 : w.heap.size + 1 < w.heap.size + 1 + 1 + 1 := (by omega)
  go_enter Try.func44, Try.ntmps44
  go_wp2_with (first | (go_at_call 63; refine (l01Code2_no x0 y0 x1 y1 _ _ _ (by simp) (by go_cell) (by go_cell) (by go_cell) (by go_cell) HN.out).mono ?_; rintro e wn ⟨rfl, hb⟩; first | (have h2 := after_call2 hb hcl hfr hlt (by (repeat' (first | (with_reducible exact Below.refl _ _) | (with_reducible refine Below.alloc ?_ ?_ _) | (with_reducible refine Below.setCell ?_ ?_ _) | (with_reducible refine Below.drew ?_) | (with_reducible refine below_drewN ?_ _) | (with_reducible assumption) | (with_reducible refine below_after (by with_reducible assumption) ?_) | go_size))); obtain ⟨hcl, hfr, hlt⟩ := h2; have hsz := hb.size; try simp only [World.size_alloc, World.size_setCell, World.size_drew] at hsz) | (obtain ⟨hcl, hfr, hlt, hsz⟩ := after_call hb; try simp only [World.size_alloc, World.size_setCell, World.size_drew] at hcl hfr hlt hsz)))
  go_ret2
  exact ⟨rfl, by (repeat' (first | (with_reducible exact Below.refl _ _) | (with_reducible refine Below.alloc ?_ ?_ _) | (with_reducible refine Below.setCell ?_ ?_ _) | (with_reducible refine Below.drew ?_) | (with_reducible refine below_drewN ?_ _) | (with_reducible assumption) | (with_reducible refine below_after (by with_reducible assumption) ?_) | go_size))⟩

theorem impl_AreaOf_yes (x0 y0 x1 y1 x2 y2 : Int) (w : World) (k0 : isPt (x0, y0) = true) (k1 : isPt (x1, y1) = true) (k2 : isPt (x2, y2) = true) :
    Calls Try.prog 19 #[.agg #[.int .i64 x0, .int .i64 y0], .agg #[.int .i64 x1, .int .i64 y1], .agg #[.int .i64 x2, .int .i64 y2]] w fun e w' => e = .returned (.tuple #[.int .i64 (areaP (x0, y0) (x1, y1) (x2, y2)), .int .i64 0]) ∧ Below w.heap.size w w' := by
  have H0 := Lib.hid k0
  have H1 := Lib.hid k1
  have H2 := Lib.hid k2
  clear k0
  clear k1
  clear k2
  have hs20 : w.heap.size < w.heap.size + 1 + 1 := (by omega); have hs30 : w.heap.size < w.heap.size + 1 + 1 + 1 := (by omega); have hs31 : w.heap.size + 1 < w.heap.size + 1 + 1 + 1 := (by omega); have hs40 : w.heap.size < w.heap.size + 1 + 1 + 1 + 1 := (by omega); have hs41 : w.heap.size + 1 < w.heap.size + 1 + 1 + 1 + 1 := (by omega); have hs42 : w.heap.size + 1 + 1 < w.heap.size + 1 + 1 + 1 + 1 := (by omega)
  go_enter Try.func19, Try.ntmps19
  go_wp2_with (first | (go_at_call 61; refine (arePoints3_yes x0 y0 x1 y1 x2 y2 _ _ _ (by simp) (by go_cell) (by go_cell) (by go_cell) (by go_cell) (by go_cell) (by go_cell) H0.out H1.out H2.out).mono ?_; rintro e wn ⟨rfl, hb⟩; first | (have h2 := after_call2 hb hcl hfr hlt (by (repeat' (first | (with_reducible exact Below.refl _ _) | (with_reducible refine Below.alloc ?_ ?_ _) | (with_reducible refine Below.setCell ?_ ?_ _) | (with_reducible refine Below.drew ?_) | (with_reducible refine below_drewN ?_ _) | (with_reducible assumption) | (with_reducible refine below_after (by with_reducible assumption) ?_) | go_size))); obtain ⟨hcl, hfr, hlt⟩ := h2; have hsz := hb.size; try simp only [World.size_alloc, World.size_setCell, World.size_drew] at hsz) | (obtain ⟨hcl, hfr, hlt, hsz⟩ := after_call hb; try simp only [World.size_alloc, World.size_setCell, World.size_drew] at hcl hfr hlt hsz)) | (go_at_call 62; refine (areaBetween_any _ _ _ _ _ _ _ H0.out H1.out H2.out).mono ?_; rintro e wn ⟨rfl, hb⟩; first | (have h2 := after_call2 hb hcl hfr hlt (by (repeat' (first | (with_reducible exact Below.refl _ _) | (with_reducible refine Below.alloc ?_ ?_ _) | (with_reducible refine Below.setCell ?_ ?_ _) | (with_reducible refine Below.drew ?_) | (with_reducible refine below_drewN ?_ _) | (with_reducible assumption) | (with_reducible refine below_after (by with_reducible assumption) ?_) | go_size))); obtain ⟨hcl, hfr, hlt⟩ := h2; have hsz := hb.size; try simp only [World.size_alloc, World.size_setCell, World.size_drew] at hsz) | (obtain ⟨hcl, hfr, hlt, hsz⟩ := after_call hb; try simp only [World.size_alloc, World.size_setCell, World.size_drew] at hcl hfr hlt hsz)))
  go_ret2
  exact ⟨rfl, by (repeat' (first | (with_reducible exact Below.refl _ _) | (with_reducible refine Below.alloc ?_ ?_ _) | (with_reducible refine Below.setCell ?_ ?_ _) | (with_reducible refine Below.drew ?_) | (with_reducible refine below_drewN ?_ _) | (with_reducible assumption) | (with_reducible refine below_after (by with_reducible assumption) ?_) | go_size))⟩
theorem impl_AreaOf_no (x0 y0 x1 y1 x2 y2 : Int) (w : World) (hn : (isPt (x0, y0) && isPt (x1, y1) && isPt (x2, y2)) = false) :
    Calls Try.prog 19 #[.agg #[.int .i64 x0, .int .i64 y0], .agg #[.int .i64 x1, .int .i64 y1], .agg #[.int .i64 x2, .int .i64 y2]] w fun e w' => e = .returned (.tuple #[.int .i64 0, .int .i64 1]) ∧ Below w.heap.size w w' := by
  have HN := Lib.hid hn
  clear hn
  have hs20 : w.heap.size < w.heap.size + 1 + 1 := (by omega); have hs30 : w.heap.size < w.heap.size + 1 + 1 + 1 := (by omega); have hs31 : w.heap.size + 1 < w.heap.size + 1 + 1 + 1 := (by omega); have hs40 : w.heap.size < w.heap.size + 1 + 1 + 1 + 1 := (by omega); have hs41 : w.heap.size + 1 < w.heap.size + 1 + 1 + 1 + 1 := (by omega); have hs42 : w.heap.size + 1 + 1 < w.heap.size + 1 + 1 + 1 + 1 := (by omega)
  go_enter Try.func19, Try.ntmps19
  go_wp2_with (first | (go_at_call 61; refine (arePoints3_no x0 y0 x1 y1 x2 y2 _ _ _ (by simp) (by go_cell) (by go_cell) (by go_cell) (by go_cell) (by go_cell) (by go_cell) HN.out).mono ?_; rintro e wn ⟨rfl, hb⟩; first | (have h2 := after_call2 hb hcl hfr hlt (by (repeat' (first | (with_reducible exact Below.refl _ _) | (with_reducible refine Below.alloc ?_ ?_ _) | (with_reducible refine Below.setCell ?_ ?_ _) | (with_reducible refine Below.drew ?_) | (with_reducible refine below_drewN ?_ _) | (with_reducible assumption) | (with_reducible refine below_after (by with_reducible assumption) ?_) | go_size))); obtain ⟨hcl, hfr, hlt⟩ := h2; have hsz := hb.size; try simp only [World.size_alloc, World.size_setCell, World.size_drew] at hsz) | (obtain ⟨hcl, hfr, hlt, hsz⟩ := after_call hb; try simp only [World.size_alloc, World.size_setCell, World.size_drew] at hcl hfr hlt hsz)))
  go_ret2
  exact ⟨rfl, by (repeat' (first | (with_reducible exact Below.refl _ _) | (with_reducible refine Below.alloc ?_ ?_ _) | (with_reducible refine Below.setCell ?_ ?_ _) | (with_reducible refine Below.drew ?_) | (with_reducible refine below_drewN ?_ _) | (with_reducible assumption) | (with_reducible refine below_after (by with_reducible assumption) ?_) | go_size))⟩

theorem spec_AreaOf_yes (x0 y0 x1 y1 x2 y2 : Int) (w : World) (k0 : isPt (x0, y0) = true) (k1 : isPt (x1, y1) = true) (k2 : isPt (x2, y2) = true) :
    Calls Try.prog 20 #[.agg #[.int .i64 x0, .int .i64 y0], .agg #[.int .i64 x1, .int .i64 y1], .agg #[.int .i64 x2, .int .i64 y2]] w fun e w' => e = .returned (.tuple #[.int .i64 (areaP (x0, y0) (x1, y1) (x2, y2)), .int .i64 0]) ∧ Below w.heap.size w w' := by
  have H0 := Lib.hid k0
  have H1 := Lib.hid k1
  have H2 := Lib.hid k2
  clear k0
  clear k1
  clear k2
  have hs20 : w.heap.size < w.heap.size + 1 + 1 := (by omega); have hs30 : w.heap.size < w.heap.size + 1 + 1 + 1 := (by omega); have hs31 : w.heap.size + 1 < w.heap.size + 1 + 1 + 1 := (by omega); have hs40 : w.heap.size < w.heap.size + 1 + 1 + 1 + 1 := (by omega); have hs41 : w.heap.size + 1 < w.heap.size + 1 + 1 + 1 + 1 := (by omega); have hs42 : w.heap.size + 1 + 1 < w.heap.size + 1 + 1 + 1 + 1 := (by omega)
  go_enter Try.func20, Try.ntmps20
  go_wp2_with (first | (go_at_call 63; refine (l01Code3_yes x0 y0 x1 y1 x2 y2 _ _ _ (by simp) (by go_cell) (by go_cell) (by go_cell) (by go_cell) (by go_cell) (by go_cell) H0.out H1.out H2.out).mono ?_; rintro e wn ⟨rfl, hb⟩; first | (have h2 := after_call2 hb hcl hfr hlt (by (repeat' (first | (with_reducible exact Below.refl _ _) | (with_reducible refine Below.alloc ?_ ?_ _) | (with_reducible refine Below.setCell ?_ ?_ _) | (with_reducible refine Below.drew ?_) | (with_reducible refine below_drewN ?_ _) | (with_reducible assumption) | (with_reducible refine below_after (by with_reducible assumption) ?_) | go_size))); obtain ⟨hcl, hfr, hlt⟩ := h2; have hsz := hb.size; try simp only [World.size_alloc, World.size_setCell, World.size_drew] at hsz) | (obtain ⟨hcl, hfr, hlt, hsz⟩ := after_call hb; try simp only [World.size_alloc, World.size_setCell, World.size_drew] at hcl hfr hlt hsz)) | (go_at_call 64; refine (l01Area_any _ _ _ _ _ _ _ H0.out H1.out H2.out).mono ?_; rintro e wn ⟨rfl, hb⟩; first | (have h2 := after_call2 hb hcl hfr hlt (by (repeat' (first | (with_reducible exact Below.refl _ _) | (with_reducible refine Below.alloc ?_ ?_ _) | (with_reducible refine Below.setCell ?_ ?_ _) | (with_reducible refine Below.drew ?_) | (with_reducible refine below_drewN ?_ _) | (with_reducible assumption) | (with_reducible refine below_after (by with_reducible assumption) ?_) | go_size))); obtain ⟨hcl, hfr, hlt⟩ := h2; have hsz := hb.size; try simp only [World.size_alloc, World.size_setCell, World.size_drew] at hsz) | (obtain ⟨hcl, hfr, hlt, hsz⟩ := after_call hb; try simp only [World.size_alloc, World.size_setCell, World.size_drew] at hcl hfr hlt hsz)))
  go_ret2
  exact ⟨rfl, by (repeat' (first | (with_reducible exact Below.refl _ _) | (with_reducible refine Below.alloc ?_ ?_ _) | (with_reducible refine Below.setCell ?_ ?_ _) | (with_reducible refine Below.drew ?_) | (with_reducible refine below_drewN ?_ _) | (with_reducible assumption) | (with_reducible refine below_after (by with_reducible assumption) ?_) | go_size))⟩
theorem spec_AreaOf_no (x0 y0 x1 y1 x2 y2 : Int) (w : World) (hn : (isPt (x0, y0) && isPt (x1, y1) && isPt (x2, y2)) = false) :
    Calls Try.prog 20 #[.agg #[.int .i64 x0, .int .i64 y0], .agg #[.int .i64 x1, .int .i64 y1], .agg #[.int .i64 x2, .int .i64 y2]] w fun e w' => e = .returned (.tuple #[.int .i64 0, .int .i64 1]) ∧ Below w.heap.size w w' := by
  have HN := Lib.hid hn
  clear hn
  have hs20 : w.heap.size < w.heap.size + 1 + 1 := (by omega); have hs30 : w.heap.size < w.heap.size + 1 + 1 + 1 := (by omega); have hs31 : w.heap.size + 1 < w.heap.size + 1 + 1 + 1 := (by omega); have hs40 : w.heap.size < w.heap.size + 1 + 1 + 1 + 1 := (by omega); have hs41 : w.heap.size + 1 < w.heap.size + 1 + 1 + 1 + 1 := (by omega); have hs42 : w.heap.size + 1 + 1 < w.heap.size + 1 + 1 + 1 + 1 := (by omega)
  go_enter Try.func20, Try.ntmps20
  go_wp2_with (first | (go_at_call 63; refine (l01Code3_no x0 y0 x1 y1 x2 y2 _ _ _ (by simp) (by go_cell) (by go_cell) (by go_cell) (by go_cell) (by go_cell) (by go_cell) HN.out).mono ?_; rintro e wn ⟨rfl, hb⟩; first | (have h2 := after_call2 hb hcl hfr hlt (by (repeat' (first | (with_reducible exact Below.refl _ _) | (with_reducible refine Below.alloc ?_ ?_ _) | (with_reducible refine Below.setCell ?_ ?_ _) | (with_reducible refine Below.drew ?_) | (with_reducible refine below_drewN ?_ _) | (with_reducible assumption) | (with_reducible refine below_after (by with_reducible assumption) ?_) | go_size))); obtain ⟨hcl, hfr, hlt⟩ := h2; have hsz := hb.size; try simp only [World.size_alloc, World.size_setCell, World.size_drew] at hsz) | (obtain ⟨hcl, hfr, hlt, hsz⟩ := after_call hb; try simp only [World.size_alloc, World.size_setCell, World.size_drew] at hcl hfr hlt hsz)))
  go_ret2
  exact ⟨rfl, by (repeat' (first | (with_reducible exact Below.refl _ _) | (with_reducible refine Below.alloc ?_ ?_ _) | (with_reducible refine Below.setCell ?_ ?_ _) | (with_reducible refine Below.drew ?_) | (with_reducible refine below_drewN ?_ _) | (with_reducible assumption) | (with_reducible refine below_after (by with_reducible assumption) ?_) | go_size))⟩

end Go.Proofs.Ytdehiiloiphmpaa
