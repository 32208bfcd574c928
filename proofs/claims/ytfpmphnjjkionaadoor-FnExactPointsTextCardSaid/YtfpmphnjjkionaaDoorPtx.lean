/-
  The texts of points on both sides; strconv.FormatInt by its contract (own work).
-/
import Derived.Test.YtfpmphnjjkionaaDoorDec
import Derived.Test.YtfpmphnjjkionaaDoorEq
import Derived.Test.YtfpmphnjjkionaaDoorAlg2
namespace Go.Proofs.YtfpmphnjjkionaaDoor
open Go.ChangeShapes Go.WideShapes Go.ChangeAt Go.RowKit
set_option linter.unusedVariables false
set_option linter.unusedSimpArgs false
set_option maxRecDepth 100000

theorem itoa_len {n : Int} (h1 : -10000000 ≤ n) (h2 : n ≤ 10000000) : (Lib.itoa n).length ≤ 10000002 := by
  unfold Lib.itoa
  split
  · have := dec_len _ n.natAbs (Nat.lt_succ_self _)
    simp; omega
  · have := dec_len _ n.toNat (Nat.lt_succ_self _)
    omega
/-- The text of a point. -/
def txP (x y : Int) : ByteArray := (⟨(Lib.itoa x).toArray⟩ ++ ⟨#[44]⟩) ++ ⟨(Lib.itoa y).toArray⟩
def txV (x y : Int) : ByteArray := if isPt (x, y) = true then txP x y else ⟨#[]⟩
def txC (x y : Int) : Int := if isPt (x, y) = true then 0 else 1
theorem txt_small {x y : Int} (hx1 : -10000000 ≤ x) (hx2 : x ≤ 10000000) (hy1 : -10000000 ≤ y) (hy2 : y ≤ 10000000) : ¬ 9223372036854775807 < (Lib.itoa x).length + 1 ∧ ¬ 9223372036854775807 < (Lib.itoa x).length + 1 + (Lib.itoa y).length := by
  have := itoa_len hx1 hx2
  have := itoa_len hy1 hy2
  omega
set_option maxHeartbeats 1600000 in
theorem l01Text_any (x y : Int) (w : World) (hx1 : -10000000 ≤ x) (hx2 : x ≤ 10000000) (hy1 : -10000000 ≤ y) (hy2 : y ≤ 10000000) : Calls Tryd.prog 23 #[.agg #[.int .i64 x, .int .i64 y]] w fun e w' => e = .returned (.string (txP x y)) ∧ Below w.heap.size w w' := by
  obtain ⟨q1, q2⟩ := txt_small hx1 hx2 hy1 hy2
  unfold txP
  have hs20 : w.heap.size < w.heap.size + 1 + 1 := (by omega)
  go_enter Tryd.func23, Tryd.ntmps23
  go_wp2_with fail
  go_region_held3 (fun W => W.cell? ⟨w.heap.size, 0, none⟩ = some (.int .i64 x) ∧ W.cell? ⟨w.heap.size, 1, none⟩ = some (.int .i64 y) ∧ w.heap.size < W.heap.size) (first | (go_keep; done) | ((repeat' apply And.intro) <;> first | (go_keep; done) | (go_cell; done) | (refine (Below.cell (B := w.heap.size + 1) ?_ ?_).trans ?_; focus (repeat' (first | (with_reducible refine Below.alloc ?_ ?_ _) | (with_reducible refine Below.setCell ?_ ?_ _) | (with_reducible refine Below.drew ?_) | (with_reducible exact Below.refl _ _) | (first | omega | (simp only [World.size_alloc, World.size_drew, World.size_setCell]; omega) | (simp; omega)))); focus (first | omega | (simp only [World.size_alloc, World.size_drew, World.size_setCell]; omega) | (simp; omega)); first | (go_keep; done) | ((refine (Below.cell (by with_reducible assumption) ?_).trans ?_) <;> first | (go_keep; done) | (first | omega | (simp only [World.size_alloc, World.size_drew, World.size_setCell]; omega) | (simp; omega)))) | ((refine (Below.cell (by with_reducible assumption) ?_).trans ?_) <;> first | (go_keep; done) | (simp only [World.size_alloc, World.size_drew, World.size_setCell]; omega) | omega) | (simp only [World.size_alloc, World.size_drew, World.size_setCell]; omega) | omega)) (first | (go_at_call 35; refine (l01Dec_any _ _ (by first | exact hx1 | exact hy1) (by first | exact hx2 | exact hy2)).mono ?_; rintro e wn ⟨rfl, hb⟩; first | (have h2 := after_call2 hb hcl hfr hlt (by ((repeat' (first | (with_reducible exact Below.refl _ _) | (with_reducible refine Below.alloc ?_ ?_ _) | (with_reducible refine Below.setCell ?_ ?_ _) | (with_reducible refine Below.drew ?_) | (with_reducible refine below_drewN ?_ _) | (with_reducible assumption) | (with_reducible refine below_after (by with_reducible assumption) ?_) | go_size)); done)); obtain ⟨hclx, hfrx, hltx, hsz⟩ := after_call hb; (try simp only [World.size_alloc, World.size_setCell, World.size_drew] at hclx hfrx hltx hsz); (try (have hszl := Nat.lt_of_succ_le hsz)); obtain ⟨hcl, hfr, hlt⟩ := h2) | (obtain ⟨hcl, hfr, hlt, hsz⟩ := after_call hb; (try simp only [World.size_alloc, World.size_setCell, World.size_drew] at hcl hfr hlt hsz))))
  all_goals
    go_wp2
    go_ret
    exact ⟨rfl, by (repeat' (first | (with_reducible exact Below.refl _ _) | (with_reducible refine Below.alloc ?_ ?_ _) | (with_reducible refine Below.setCell ?_ ?_ _) | (with_reducible refine Below.drew ?_) | (with_reducible refine below_drewN ?_ _) | (with_reducible assumption) | (with_reducible refine below_after (by with_reducible assumption) ?_) | go_size))⟩
theorem spec_PointText_any (x y : Int) (w : World) : Calls Tryd.prog 7 #[.agg #[.int .i64 x, .int .i64 y]] w fun e w' => e = .returned (.tuple #[.string (txV x y), .int .i64 (txC x y)]) ∧ Below w.heap.size w w' := by
  cases h : isPt (x, y)
  · rw [show txV x y = ⟨#[]⟩ by unfold txV; rw [h]; rfl, show txC x y = 1 by unfold txC; rw [h]; rfl]
    have hs20 : w.heap.size < w.heap.size + 1 + 1 := (by omega)
    go_enter Tryd.func7, Tryd.ntmps7
    go_wp2_with (go_at_call 22; refine (l01Is_any _ _ _).mono ?_; rintro e wn ⟨rfl, hb⟩; first | (have h2 := after_call2 hb hcl hfr hlt (by ((repeat' (first | (with_reducible exact Below.refl _ _) | (with_reducible refine Below.alloc ?_ ?_ _) | (with_reducible refine Below.setCell ?_ ?_ _) | (with_reducible refine Below.drew ?_) | (with_reducible refine below_drewN ?_ _) | (with_reducible assumption) | (with_reducible refine below_after (by with_reducible assumption) ?_) | go_size)); done)); obtain ⟨hclx, hfrx, hltx, hsz⟩ := after_call hb; (try simp only [World.size_alloc, World.size_setCell, World.size_drew] at hclx hfrx hltx hsz); (try (have hszl := Nat.lt_of_succ_le hsz)); obtain ⟨hcl, hfr, hlt⟩ := h2) | (obtain ⟨hcl, hfr, hlt, hsz⟩ := after_call hb; (try simp only [World.size_alloc, World.size_setCell, World.size_drew] at hcl hfr hlt hsz)))
    go_ret2
    exact ⟨rfl, by (repeat' (first | (with_reducible exact Below.refl _ _) | (with_reducible refine Below.alloc ?_ ?_ _) | (with_reducible refine Below.setCell ?_ ?_ _) | (with_reducible refine Below.drew ?_) | (with_reducible refine below_drewN ?_ _) | (with_reducible assumption) | (with_reducible refine below_after (by with_reducible assumption) ?_) | go_size))⟩
  · rw [show txV x y = txP x y by unfold txV; rw [h]; rfl, show txC x y = 0 by unfold txC; rw [h]; rfl]
    obtain ⟨a1, a2⟩ := isPt_c1 h
    obtain ⟨b1, b2⟩ := isPt_c2 h
    have HT : Hid (∀ w, Calls Tryd.prog 23 #[.agg #[.int .i64 x, .int .i64 y]] w fun e w' => e = .returned (.string (txP x y)) ∧ Below w.heap.size w w') := fun w => l01Text_any x y w (by omega) (by omega) (by omega) (by omega)
    have hs20 : w.heap.size < w.heap.size + 1 + 1 := (by omega)
    go_enter Tryd.func7, Tryd.ntmps7
    go_wp2_with (first | (go_at_call 22; refine (l01Is_any _ _ _).mono ?_; rintro e wn ⟨rfl, hb⟩; first | (have h2 := after_call2 hb hcl hfr hlt (by ((repeat' (first | (with_reducible exact Below.refl _ _) | (with_reducible refine Below.alloc ?_ ?_ _) | (with_reducible refine Below.setCell ?_ ?_ _) | (with_reducible refine Below.drew ?_) | (with_reducible refine below_drewN ?_ _) | (with_reducible assumption) | (with_reducible refine below_after (by with_reducible assumption) ?_) | go_size)); done)); obtain ⟨hclx, hfrx, hltx, hsz⟩ := after_call hb; (try simp only [World.size_alloc, World.size_setCell, World.size_drew] at hclx hfrx hltx hsz); (try (have hszl := Nat.lt_of_succ_le hsz)); obtain ⟨hcl, hfr, hlt⟩ := h2) | (obtain ⟨hcl, hfr, hlt, hsz⟩ := after_call hb; (try simp only [World.size_alloc, World.size_setCell, World.size_drew] at hcl hfr hlt hsz))) | (go_at_call 23; refine (HT.out _).mono ?_; rintro e wn ⟨rfl, hb⟩; first | (have h2 := after_call2 hb hcl hfr hlt (by ((repeat' (first | (with_reducible exact Below.refl _ _) | (with_reducible refine Below.alloc ?_ ?_ _) | (with_reducible refine Below.setCell ?_ ?_ _) | (with_reducible refine Below.drew ?_) | (with_reducible refine below_drewN ?_ _) | (with_reducible assumption) | (with_reducible refine below_after (by with_reducible assumption) ?_) | go_size)); done)); obtain ⟨hclx, hfrx, hltx, hsz⟩ := after_call hb; (try simp only [World.size_alloc, World.size_setCell, World.size_drew] at hclx hfrx hltx hsz); (try (have hszl := Nat.lt_of_succ_le hsz)); obtain ⟨hcl, hfr, hlt⟩ := h2) | (obtain ⟨hcl, hfr, hlt, hsz⟩ := after_call hb; (try simp only [World.size_alloc, World.size_setCell, World.size_drew] at hcl hfr hlt hsz))))
    go_ret2
    exact ⟨rfl, by (repeat' (first | (with_reducible exact Below.refl _ _) | (with_reducible refine Below.alloc ?_ ?_ _) | (with_reducible refine Below.setCell ?_ ?_ _) | (with_reducible refine Below.drew ?_) | (with_reducible refine below_drewN ?_ _) | (with_reducible assumption) | (with_reducible refine below_after (by with_reducible assumption) ?_) | go_size))⟩
/-- strconv.FormatInt answers so in every world that keeps what lies below B. -/
def FmtAt (B : Nat) (W0 : World) : Prop := ∀ (n : Int) (w : World), -9223372036854775808 ≤ n → n ≤ 9223372036854775807 → Below B W0 w → Calls Tryd.prog 25 #[.int .i64 n, .int .i64 10] w fun e w' => e = .returned (.string ⟨(Lib.itoa n).toArray⟩) ∧ Below w.heap.size w w'
theorem FmtAt.on {B : Nat} {W0 w : World} (h : FmtAt B W0) (hb : Below B W0 w) : FmtAt B w := fun n w' h1 h2 hb' => h n w' h1 h2 (hb.trans hb')
set_option maxHeartbeats 1600000 in
theorem impl_PointText_any (B : Nat) (x y : Int) (w : World) (hB : B ≤ w.heap.size) (hF : FmtAt B w) : Calls Tryd.prog 9 #[.agg #[.int .i64 x, .int .i64 y]] w fun e w' => e = .returned (.tuple #[.string (txV x y), .int .i64 (txC x y)]) ∧ Below w.heap.size w w' := by
  cases h : isPt (x, y)
  · rw [show txV x y = ⟨#[]⟩ by unfold txV; rw [h]; rfl, show txC x y = 1 by unfold txC; rw [h]; rfl]
    have hs20 : w.heap.size < w.heap.size + 1 + 1 := (by omega)
    go_enter Tryd.func9, Tryd.ntmps9
    go_wp2_with (go_at_call 24; refine (isPoint_any _ _ _).mono ?_; rintro e wn ⟨rfl, hb⟩; first | (have h2 := after_call2 hb hcl hfr hlt (by ((repeat' (first | (with_reducible exact Below.refl _ _) | (with_reducible refine Below.alloc ?_ ?_ _) | (with_reducible refine Below.setCell ?_ ?_ _) | (with_reducible refine Below.drew ?_) | (with_reducible refine below_drewN ?_ _) | (with_reducible assumption) | (with_reducible refine below_after (by with_reducible assumption) ?_) | go_size)); done)); obtain ⟨hclx, hfrx, hltx, hsz⟩ := after_call hb; (try simp only [World.size_alloc, World.size_setCell, World.size_drew] at hclx hfrx hltx hsz); (try (have hszl := Nat.lt_of_succ_le hsz)); obtain ⟨hcl, hfr, hlt⟩ := h2) | (obtain ⟨hcl, hfr, hlt, hsz⟩ := after_call hb; (try simp only [World.size_alloc, World.size_setCell, World.size_drew] at hcl hfr hlt hsz)))
    go_ret2
    exact ⟨rfl, by (repeat' (first | (with_reducible exact Below.refl _ _) | (with_reducible refine Below.alloc ?_ ?_ _) | (with_reducible refine Below.setCell ?_ ?_ _) | (with_reducible refine Below.drew ?_) | (with_reducible refine below_drewN ?_ _) | (with_reducible assumption) | (with_reducible refine below_after (by with_reducible assumption) ?_) | go_size))⟩
  · rw [show txV x y = txP x y by unfold txV; rw [h]; rfl, show txC x y = 0 by unfold txC; rw [h]; rfl]
    obtain ⟨a1, a2⟩ := isPt_c1 h
    obtain ⟨b1, b2⟩ := isPt_c2 h
    obtain ⟨q1, q2⟩ := txt_small (x := x) (y := y) (by omega) (by omega) (by omega) (by omega)
    have HF := Lib.hid hF
    have HB := Lib.hid hB
    clear hF hB
    unfold txP
    have hs20 : w.heap.size < w.heap.size + 1 + 1 := (by omega)
    go_enter Tryd.func9, Tryd.ntmps9
    go_wp2_with (go_at_call 24; refine (isPoint_any _ _ _).mono ?_; rintro e wn ⟨rfl, hb⟩; first | (have h2 := after_call2 hb hcl hfr hlt (by ((repeat' (first | (with_reducible exact Below.refl _ _) | (with_reducible refine Below.alloc ?_ ?_ _) | (with_reducible refine Below.setCell ?_ ?_ _) | (with_reducible refine Below.drew ?_) | (with_reducible refine below_drewN ?_ _) | (with_reducible assumption) | (with_reducible refine below_after (by with_reducible assumption) ?_) | go_size)); done)); obtain ⟨hclx, hfrx, hltx, hsz⟩ := after_call hb; (try simp only [World.size_alloc, World.size_setCell, World.size_drew] at hclx hfrx hltx hsz); (try (have hszl := Nat.lt_of_succ_le hsz)); obtain ⟨hcl, hfr, hlt⟩ := h2) | (obtain ⟨hcl, hfr, hlt, hsz⟩ := after_call hb; (try simp only [World.size_alloc, World.size_setCell, World.size_drew] at hcl hfr hlt hsz)))
    go_region_held3 (fun W => W.cell? ⟨w.heap.size, 0, none⟩ = some (.int .i64 x) ∧ W.cell? ⟨w.heap.size, 1, none⟩ = some (.int .i64 y) ∧ w.heap.size < W.heap.size) (first | (go_keep; done) | ((repeat' apply And.intro) <;> first | (go_keep; done) | (go_cell; done) | (refine (Below.cell (B := w.heap.size + 1) ?_ ?_).trans ?_; focus (repeat' (first | (with_reducible refine Below.alloc ?_ ?_ _) | (with_reducible refine Below.setCell ?_ ?_ _) | (with_reducible refine Below.drew ?_) | (with_reducible exact Below.refl _ _) | (first | omega | (simp only [World.size_alloc, World.size_drew, World.size_setCell]; omega) | (simp; omega)))); focus (first | omega | (simp only [World.size_alloc, World.size_drew, World.size_setCell]; omega) | (simp; omega)); first | (go_keep; done) | ((refine (Below.cell (by with_reducible assumption) ?_).trans ?_) <;> first | (go_keep; done) | (first | omega | (simp only [World.size_alloc, World.size_drew, World.size_setCell]; omega) | (simp; omega)))) | ((refine (Below.cell (by with_reducible assumption) ?_).trans ?_) <;> first | (go_keep; done) | (simp only [World.size_alloc, World.size_drew, World.size_setCell]; omega) | omega) | (simp only [World.size_alloc, World.size_drew, World.size_setCell]; omega) | omega)) (first | (go_at_call 25; refine (HF.out _ _ (by omega) (by omega) (Below.mono (show Below w.heap.size w _ by (repeat' (first | (with_reducible exact Below.refl _ _) | (with_reducible refine Below.alloc ?_ ?_ _) | (with_reducible refine Below.setCell ?_ ?_ _) | (with_reducible refine Below.drew ?_) | (with_reducible refine below_drewN ?_ _) | (with_reducible assumption) | (with_reducible refine below_after (by with_reducible assumption) ?_) | go_size))) HB.out)).mono ?_; rintro e wn ⟨rfl, hb⟩; first | (have h2 := after_call2 hb hcl hfr hlt (by ((repeat' (first | (with_reducible exact Below.refl _ _) | (with_reducible refine Below.alloc ?_ ?_ _) | (with_reducible refine Below.setCell ?_ ?_ _) | (with_reducible refine Below.drew ?_) | (with_reducible refine below_drewN ?_ _) | (with_reducible assumption) | (with_reducible refine below_after (by with_reducible assumption) ?_) | go_size)); done)); obtain ⟨hclx, hfrx, hltx, hsz⟩ := after_call hb; (try simp only [World.size_alloc, World.size_setCell, World.size_drew] at hclx hfrx hltx hsz); (try (have hszl := Nat.lt_of_succ_le hsz)); obtain ⟨hcl, hfr, hlt⟩ := h2) | (obtain ⟨hcl, hfr, hlt, hsz⟩ := after_call hb; (try simp only [World.size_alloc, World.size_setCell, World.size_drew] at hcl hfr hlt hsz))))
    all_goals
      go_wp2
      go_ret2
      exact ⟨rfl, by (repeat' (first | (with_reducible exact Below.refl _ _) | (with_reducible refine Below.alloc ?_ ?_ _) | (with_reducible refine Below.setCell ?_ ?_ _) | (with_reducible refine Below.drew ?_) | (with_reducible refine below_drewN ?_ _) | (with_reducible assumption) | (with_reducible refine below_after (by with_reducible assumption) ?_) | go_size))⟩
end Go.Proofs.YtfpmphnjjkionaaDoor
