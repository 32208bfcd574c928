/-
  Contracts of chapter 4's questions whether three points are a triangle (own work).
-/
import Derived.Test.YtcgaikedbhdbgaaTriM
import Derived.Test.YtcgaikedbhdbgaaAlg4
import Derived.Lib.MinMax
namespace Go.Proofs.Ytcgaikedbhdbgaa
open Go.ChangeShapes Go.WideShapes Go.ChangeAt Go.RowKit
set_option linter.unusedVariables false
set_option maxRecDepth 100000
set_option linter.unusedSimpArgs false
set_option maxRecDepth 100000

theorem isS_mm (x y : Int) : isS x y = (!(decide (min x y < -1000)) && !(decide (1000 < max x y))) := by
  rw [Bool.eq_iff_iff]
  simp only [isS, Bool.and_eq_true, decide_eq_true_eq, Bool.not_eq_true', decide_eq_false_iff_not]
  omega
def inB (n l h : Int) : Bool := decide (l ≤ n ∧ n ≤ h)
theorem inB_iff {n l h : Int} : inB n l h = true ↔ l ≤ n ∧ n ≤ h := by simp [inB]
theorem inB_not {n l h : Int} : inB n l h = false ↔ ¬ (l ≤ n ∧ n ≤ h) := by simp [inB]
theorem isS_in (x y : Int) : isS x y = (inB x (-1000) 1000 && inB y (-1000) 1000) := by
  rw [Bool.eq_iff_iff]
  simp only [isS, inB, Bool.and_eq_true, decide_eq_true_eq]
  omega
theorem l01In_yes (n l h : Int) (w : World) (h1 : l ≤ n) (h2 : n ≤ h) : Calls Try.prog 74 #[.int .i64 n, .int .i64 l, .int .i64 h] w fun e w' => e = .returned (.bool true) ∧ w = w' := by
  go_enter Try.func74, Try.ntmps74
  go_wp2
  go_ret
  exact ⟨by simp [h2], rfl⟩
theorem l01In_no (n l h : Int) (w : World) (hn : ¬ (l ≤ n ∧ n ≤ h)) : Calls Try.prog 74 #[.int .i64 n, .int .i64 l, .int .i64 h] w fun e w' => e = .returned (.bool false) ∧ w = w' := by
  by_cases h1 : l ≤ n
  · have h2 : ¬ n ≤ h := by omega
    clear hn
    go_enter Try.func74, Try.ntmps74
    go_wp2
    go_ret
    exact ⟨by simp [h2], rfl⟩
  · have hd : decide (l ≤ n) = false := by simpa using h1
    clear hn
    go_enter Try.func74, Try.ntmps74
    go_wp2
    go_ret
    exact ⟨by simp [hd], rfl⟩
theorem l01In_any (n l h : Int) (w : World) : Calls Try.prog 74 #[.int .i64 n, .int .i64 l, .int .i64 h] w fun e w' => e = .returned (.bool (inB n l h)) ∧ w = w' := by
  cases hb : inB n l h
  · exact l01In_no n l h w (inB_not.1 hb)
  · exact l01In_yes n l h w (inB_iff.1 hb).1 (inB_iff.1 hb).2
theorem toPointT_any (x y : Int) (w : World) : Calls Try.prog 63 #[.agg #[.int .i64 x, .int .i64 y]] w fun e w' => e = .returned (.agg #[.int .i64 x, .int .i64 y]) ∧ Below w.heap.size w w' := by
  go_enter Try.func63, Try.ntmps63
  go_wp2
  go_rounds 3
  go_returns
  refine ⟨rfl, ?_⟩
  go_grown
set_option maxHeartbeats 1600000 in
theorem toTriangle_any (x0 y0 x1 y1 x2 y2 : Int) (w : World) : Calls Try.prog 18 #[.agg #[.int .i64 x0, .int .i64 y0, .int .i64 x1, .int .i64 y1, .int .i64 x2, .int .i64 y2]] w fun e w' => e = .returned (.agg #[.int .i64 x0, .int .i64 y0, .int .i64 x1, .int .i64 y1, .int .i64 x2, .int .i64 y2]) ∧ Below w.heap.size w w' := by
  have hs20 : w.heap.size < w.heap.size + 1 + 1 := (by omega); have hs30 : w.heap.size < w.heap.size + 1 + 1 + 1 := (by omega); have hs31 : w.heap.size + 1 < w.heap.size + 1 + 1 + 1 := (by omega); have hs40 : w.heap.size < w.heap.size + 1 + 1 + 1 + 1 := (by omega); have hs41 : w.heap.size + 1 < w.heap.size + 1 + 1 + 1 + 1 := (by omega); have hs42 : w.heap.size + 1 + 1 < w.heap.size + 1 + 1 + 1 + 1 := (by omega); have hs50 : w.heap.size < w.heap.size + 1 + 1 + 1 + 1 + 1 := (by omega); have hs51 : w.heap.size + 1 < w.heap.size + 1 + 1 + 1 + 1 + 1 := (by omega); have hs52 : w.heap.size + 1 + 1 < w.heap.size + 1 + 1 + 1 + 1 + 1 := (by omega); have hs53 : w.heap.size + 1 + 1 + 1 < w.heap.size + 1 + 1 + 1 + 1 + 1 := (by omega); have hs60 : w.heap.size < w.heap.size + 1 + 1 + 1 + 1 + 1 + 1 := (by omega); have hs61 : w.heap.size + 1 < w.heap.size + 1 + 1 + 1 + 1 + 1 + 1 := (by omega); have hs62 : w.heap.size + 1 + 1 < w.heap.size + 1 + 1 + 1 + 1 + 1 + 1 := (by omega); have hs63 : w.heap.size + 1 + 1 + 1 < w.heap.size + 1 + 1 + 1 + 1 + 1 + 1 := (by omega); have hs64 : w.heap.size + 1 + 1 + 1 + 1 < w.heap.size + 1 + 1 + 1 + 1 + 1 + 1 := (by omega); have hs70 : w.heap.size < w.heap.size + 1 + 1 + 1 + 1 + 1 + 1 + 1 := (by omega); have hs71 : w.heap.size + 1 < w.heap.size + 1 + 1 + 1 + 1 + 1 + 1 + 1 := (by omega); have hs72 : w.heap.size + 1 + 1 < w.heap.size + 1 + 1 + 1 + 1 + 1 + 1 + 1 := (by omega); have hs73 : w.heap.size + 1 + 1 + 1 < w.heap.size + 1 + 1 + 1 + 1 + 1 + 1 + 1 := (by omega); have hs74 : w.heap.size + 1 + 1 + 1 + 1 < w.heap.size + 1 + 1 + 1 + 1 + 1 + 1 + 1 := (by omega); have hs75 : w.heap.size + 1 + 1 + 1 + 1 + 1 < w.heap.size + 1 + 1 + 1 + 1 + 1 + 1 + 1 := (by omega)
  go_enter Try.func18, Try.ntmps18
  go_wp2
  refine wp_loop_rounds 4 ?_
  rw [rounds_succ]
  go_wp2
  go_rounds 3
  go_rounds 3
  go_rounds 3
  refine bodyPost_ret (v := .agg #[.int .i64 x0, .int .i64 y0, .int .i64 x1, .int .i64 y1, .int .i64 x2, .int .i64 y2]) (by simp (maxDischargeDepth := 8) [results, Try.results18, go_sem, *]) rfl ?_
  exact ⟨rfl, by (repeat' (first | (with_reducible exact Below.refl _ _) | (with_reducible refine Below.alloc ?_ ?_ _) | (with_reducible refine Below.setCell ?_ ?_ _) | (with_reducible refine Below.drew ?_) | (with_reducible refine below_drewN ?_ _) | (with_reducible assumption) | (with_reducible refine below_after (by with_reducible assumption) ?_) | go_size))⟩
theorem ixT0 (v0 v1 v2 v3 v4 v5 : Value) (W : World) : (Instr.index 27 (.agg #[v0, v1, v2, v3, v4, v5]) (.int .i64 0)).run Try.prog W = .ok (.agg #[v0, v1]) W := by kernel_rfl
theorem ixT1 (v0 v1 v2 v3 v4 v5 : Value) (W : World) : (Instr.index 27 (.agg #[v0, v1, v2, v3, v4, v5]) (.int .i64 1)).run Try.prog W = .ok (.agg #[v2, v3]) W := by kernel_rfl
theorem ixT2 (v0 v1 v2 v3 v4 v5 : Value) (W : World) : (Instr.index 27 (.agg #[v0, v1, v2, v3, v4, v5]) (.int .i64 2)).run Try.prog W = .ok (.agg #[v4, v5]) W := by kernel_rfl
set_option maxHeartbeats 1600000 in
theorem isSmall_any (x0 y0 x1 y1 x2 y2 : Int) (w : World) : Calls Try.prog 64 #[.agg #[.int .i64 x0, .int .i64 y0, .int .i64 x1, .int .i64 y1, .int .i64 x2, .int .i64 y2]] w fun e w' => e = .returned (.bool (isS x0 y0 && isS x1 y1 && isS x2 y2)) ∧ Below w.heap.size w w' := by
  cases p0 : decide (min x0 y0 < -1000)
  rotate_left
  · skip
    have i0 := ixT0
    have i1 := ixT1
    have i2 := ixT2
    have hs20 : w.heap.size < w.heap.size + 1 + 1 := (by omega); have hs30 : w.heap.size < w.heap.size + 1 + 1 + 1 := (by omega); have hs31 : w.heap.size + 1 < w.heap.size + 1 + 1 + 1 := (by omega); have hs40 : w.heap.size < w.heap.size + 1 + 1 + 1 + 1 := (by omega); have hs41 : w.heap.size + 1 < w.heap.size + 1 + 1 + 1 + 1 := (by omega); have hs42 : w.heap.size + 1 + 1 < w.heap.size + 1 + 1 + 1 + 1 := (by omega); have hs50 : w.heap.size < w.heap.size + 1 + 1 + 1 + 1 + 1 := (by omega); have hs51 : w.heap.size + 1 < w.heap.size + 1 + 1 + 1 + 1 + 1 := (by omega); have hs52 : w.heap.size + 1 + 1 < w.heap.size + 1 + 1 + 1 + 1 + 1 := (by omega); have hs53 : w.heap.size + 1 + 1 + 1 < w.heap.size + 1 + 1 + 1 + 1 + 1 := (by omega)
    go_enter Try.func64, Try.ntmps64
    go_wp2
    refine wp_loop_rounds 4 ?_
    rw [rounds_succ]
    go_wp2
    go_ret
    exact ⟨by simp [isS_mm, p0], by (repeat' (first | (with_reducible exact Below.refl _ _) | (with_reducible refine Below.alloc ?_ ?_ _) | (with_reducible refine Below.setCell ?_ ?_ _) | (with_reducible refine Below.drew ?_) | (with_reducible refine below_drewN ?_ _) | (with_reducible assumption) | (with_reducible refine below_after (by with_reducible assumption) ?_) | go_size))⟩
  cases q0 : decide (1000 < max x0 y0)
  rotate_left
  · skip
    have i0 := ixT0
    have i1 := ixT1
    have i2 := ixT2
    have hs20 : w.heap.size < w.heap.size + 1 + 1 := (by omega); have hs30 : w.heap.size < w.heap.size + 1 + 1 + 1 := (by omega); have hs31 : w.heap.size + 1 < w.heap.size + 1 + 1 + 1 := (by omega); have hs40 : w.heap.size < w.heap.size + 1 + 1 + 1 + 1 := (by omega); have hs41 : w.heap.size + 1 < w.heap.size + 1 + 1 + 1 + 1 := (by omega); have hs42 : w.heap.size + 1 + 1 < w.heap.size + 1 + 1 + 1 + 1 := (by omega); have hs50 : w.heap.size < w.heap.size + 1 + 1 + 1 + 1 + 1 := (by omega); have hs51 : w.heap.size + 1 < w.heap.size + 1 + 1 + 1 + 1 + 1 := (by omega); have hs52 : w.heap.size + 1 + 1 < w.heap.size + 1 + 1 + 1 + 1 + 1 := (by omega); have hs53 : w.heap.size + 1 + 1 + 1 < w.heap.size + 1 + 1 + 1 + 1 + 1 := (by omega)
    go_enter Try.func64, Try.ntmps64
    go_wp2
    refine wp_loop_rounds 4 ?_
    rw [rounds_succ]
    go_wp2
    go_ret
    exact ⟨by simp [isS_mm, p0, q0], by (repeat' (first | (with_reducible exact Below.refl _ _) | (with_reducible refine Below.alloc ?_ ?_ _) | (with_reducible refine Below.setCell ?_ ?_ _) | (with_reducible refine Below.drew ?_) | (with_reducible refine below_drewN ?_ _) | (with_reducible assumption) | (with_reducible refine below_after (by with_reducible assumption) ?_) | go_size))⟩
  cases p1 : decide (min x1 y1 < -1000)
  rotate_left
  · skip
    have i0 := ixT0
    have i1 := ixT1
    have i2 := ixT2
    have hs20 : w.heap.size < w.heap.size + 1 + 1 := (by omega); have hs30 : w.heap.size < w.heap.size + 1 + 1 + 1 := (by omega); have hs31 : w.heap.size + 1 < w.heap.size + 1 + 1 + 1 := (by omega); have hs40 : w.heap.size < w.heap.size + 1 + 1 + 1 + 1 := (by omega); have hs41 : w.heap.size + 1 < w.heap.size + 1 + 1 + 1 + 1 := (by omega); have hs42 : w.heap.size + 1 + 1 < w.heap.size + 1 + 1 + 1 + 1 := (by omega); have hs50 : w.heap.size < w.heap.size + 1 + 1 + 1 + 1 + 1 := (by omega); have hs51 : w.heap.size + 1 < w.heap.size + 1 + 1 + 1 + 1 + 1 := (by omega); have hs52 : w.heap.size + 1 + 1 < w.heap.size + 1 + 1 + 1 + 1 + 1 := (by omega); have hs53 : w.heap.size + 1 + 1 + 1 < w.heap.size + 1 + 1 + 1 + 1 + 1 := (by omega)
    go_enter Try.func64, Try.ntmps64
    go_wp2
    refine wp_loop_rounds 4 ?_
    rw [rounds_succ]
    go_wp2
    rw [rounds_succ]
    go_wp2
    go_ret
    exact ⟨by simp [isS_mm, p0, q0, p1], by (repeat' (first | (with_reducible exact Below.refl _ _) | (with_reducible refine Below.alloc ?_ ?_ _) | (with_reducible refine Below.setCell ?_ ?_ _) | (with_reducible refine Below.drew ?_) | (with_reducible refine below_drewN ?_ _) | (with_reducible assumption) | (with_reducible refine below_after (by with_reducible assumption) ?_) | go_size))⟩
  cases q1 : decide (1000 < max x1 y1)
  rotate_left
  · skip
    have i0 := ixT0
    have i1 := ixT1
    have i2 := ixT2
    have hs20 : w.heap.size < w.heap.size + 1 + 1 := (by omega); have hs30 : w.heap.size < w.heap.size + 1 + 1 + 1 := (by omega); have hs31 : w.heap.size + 1 < w.heap.size + 1 + 1 + 1 := (by omega); have hs40 : w.heap.size < w.heap.size + 1 + 1 + 1 + 1 := (by omega); have hs41 : w.heap.size + 1 < w.heap.size + 1 + 1 + 1 + 1 := (by omega); have hs42 : w.heap.size + 1 + 1 < w.heap.size + 1 + 1 + 1 + 1 := (by omega); have hs50 : w.heap.size < w.heap.size + 1 + 1 + 1 + 1 + 1 := (by omega); have hs51 : w.heap.size + 1 < w.heap.size + 1 + 1 + 1 + 1 + 1 := (by omega); have hs52 : w.heap.size + 1 + 1 < w.heap.size + 1 + 1 + 1 + 1 + 1 := (by omega); have hs53 : w.heap.size + 1 + 1 + 1 < w.heap.size + 1 + 1 + 1 + 1 + 1 := (by omega)
    go_enter Try.func64, Try.ntmps64
    go_wp2
    refine wp_loop_rounds 4 ?_
    rw [rounds_succ]
    go_wp2
    rw [rounds_succ]
    go_wp2
    go_ret
    exact ⟨by simp [isS_mm, p0, q0, p1, q1], by (repeat' (first | (with_reducible exact Below.refl _ _) | (with_reducible refine Below.alloc ?_ ?_ _) | (with_reducible refine Below.setCell ?_ ?_ _) | (with_reducible refine Below.drew ?_) | (with_reducible refine below_drewN ?_ _) | (with_reducible assumption) | (with_reducible refine below_after (by with_reducible assumption) ?_) | go_size))⟩
  cases p2 : decide (min x2 y2 < -1000)
  rotate_left
  · skip
    have i0 := ixT0
    have i1 := ixT1
    have i2 := ixT2
    have hs20 : w.heap.size < w.heap.size + 1 + 1 := (by omega); have hs30 : w.heap.size < w.heap.size + 1 + 1 + 1 := (by omega); have hs31 : w.heap.size + 1 < w.heap.size + 1 + 1 + 1 := (by omega); have hs40 : w.heap.size < w.heap.size + 1 + 1 + 1 + 1 := (by omega); have hs41 : w.heap.size + 1 < w.heap.size + 1 + 1 + 1 + 1 := (by omega); have hs42 : w.heap.size + 1 + 1 < w.heap.size + 1 + 1 + 1 + 1 := (by omega); have hs50 : w.heap.size < w.heap.size + 1 + 1 + 1 + 1 + 1 := (by omega); have hs51 : w.heap.size + 1 < w.heap.size + 1 + 1 + 1 + 1 + 1 := (by omega); have hs52 : w.heap.size + 1 + 1 < w.heap.size + 1 + 1 + 1 + 1 + 1 := (by omega); have hs53 : w.heap.size + 1 + 1 + 1 < w.heap.size + 1 + 1 + 1 + 1 + 1 := (by omega)
    go_enter Try.func64, Try.ntmps64
    go_wp2
    refine wp_loop_rounds 4 ?_
    rw [rounds_succ]
    go_wp2
    rw [rounds_succ]
    go_wp2
    rw [rounds_succ]
    go_wp2
    go_ret
    exact ⟨by simp [isS_mm, p0, q0, p1, q1, p2], by (repeat' (first | (with_reducible exact Below.refl _ _) | (with_reducible refine Below.alloc ?_ ?_ _) | (with_reducible refine Below.setCell ?_ ?_ _) | (with_reducible refine Below.drew ?_) | (with_reducible refine below_drewN ?_ _) | (with_reducible assumption) | (with_reducible refine below_after (by with_reducible assumption) ?_) | go_size))⟩
  cases q2 : decide (1000 < max x2 y2)
  rotate_left
  · skip
    have i0 := ixT0
    have i1 := ixT1
    have i2 := ixT2
    have hs20 : w.heap.size < w.heap.size + 1 + 1 := (by omega); have hs30 : w.heap.size < w.heap.size + 1 + 1 + 1 := (by omega); have hs31 : w.heap.size + 1 < w.heap.size + 1 + 1 + 1 := (by omega); have hs40 : w.heap.size < w.heap.size + 1 + 1 + 1 + 1 := (by omega); have hs41 : w.heap.size + 1 < w.heap.size + 1 + 1 + 1 + 1 := (by omega); have hs42 : w.heap.size + 1 + 1 < w.heap.size + 1 + 1 + 1 + 1 := (by omega); have hs50 : w.heap.size < w.heap.size + 1 + 1 + 1 + 1 + 1 := (by omega); have hs51 : w.heap.size + 1 < w.heap.size + 1 + 1 + 1 + 1 + 1 := (by omega); have hs52 : w.heap.size + 1 + 1 < w.heap.size + 1 + 1 + 1 + 1 + 1 := (by omega); have hs53 : w.heap.size + 1 + 1 + 1 < w.heap.size + 1 + 1 + 1 + 1 + 1 := (by omega)
    go_enter Try.func64, Try.ntmps64
    go_wp2
    refine wp_loop_rounds 4 ?_
    rw [rounds_succ]
    go_wp2
    rw [rounds_succ]
    go_wp2
    rw [rounds_succ]
    go_wp2
    go_ret
    exact ⟨by simp [isS_mm, p0, q0, p1, q1, p2, q2], by (repeat' (first | (with_reducible exact Below.refl _ _) | (with_reducible refine Below.alloc ?_ ?_ _) | (with_reducible refine Below.setCell ?_ ?_ _) | (with_reducible refine Below.drew ?_) | (with_reducible refine below_drewN ?_ _) | (with_reducible assumption) | (with_reducible refine below_after (by with_reducible assumption) ?_) | go_size))⟩
  have i0 := ixT0
  have i1 := ixT1
  have i2 := ixT2
  have hs20 : w.heap.size < w.heap.size + 1 + 1 := (by omega); have hs30 : w.heap.size < w.heap.size + 1 + 1 + 1 := (by omega); have hs31 : w.heap.size + 1 < w.heap.size + 1 + 1 + 1 := (by omega); have hs40 : w.heap.size < w.heap.size + 1 + 1 + 1 + 1 := (by omega); have hs41 : w.heap.size + 1 < w.heap.size + 1 + 1 + 1 + 1 := (by omega); have hs42 : w.heap.size + 1 + 1 < w.heap.size + 1 + 1 + 1 + 1 := (by omega); have hs50 : w.heap.size < w.heap.size + 1 + 1 + 1 + 1 + 1 := (by omega); have hs51 : w.heap.size + 1 < w.heap.size + 1 + 1 + 1 + 1 + 1 := (by omega); have hs52 : w.heap.size + 1 + 1 < w.heap.size + 1 + 1 + 1 + 1 + 1 := (by omega); have hs53 : w.heap.size + 1 + 1 + 1 < w.heap.size + 1 + 1 + 1 + 1 + 1 := (by omega)
  go_enter Try.func64, Try.ntmps64
  go_wp2
  refine wp_loop_rounds 4 ?_
  rw [rounds_succ]
  go_wp2
  rw [rounds_succ]
  go_wp2
  rw [rounds_succ]
  go_wp2
  rw [rounds_succ]
  go_wp2
  go_ret
  exact ⟨by simp [isS_mm, p0, q0, p1, q1, p2, q2], by (repeat' (first | (with_reducible exact Below.refl _ _) | (with_reducible refine Below.alloc ?_ ?_ _) | (with_reducible refine Below.setCell ?_ ?_ _) | (with_reducible refine Below.drew ?_) | (with_reducible refine below_drewN ?_ _) | (with_reducible assumption) | (with_reducible refine below_after (by with_reducible assumption) ?_) | go_size))⟩
theorem impl_IsTriangle_any (x0 y0 x1 y1 x2 y2 : Int) (w : World) : Calls Try.prog 19 #[.agg #[.int .i64 x0, .int .i64 y0, .int .i64 x1, .int .i64 y1, .int .i64 x2, .int .i64 y2]] w fun e w' => e = .returned (.bool (isT x0 y0 x1 y1 x2 y2)) ∧ Below w.heap.size w w' := by
  cases h : (isS x0 y0 && isS x1 y1 && isS x2 y2)
  · have hs20 : w.heap.size < w.heap.size + 1 + 1 := (by omega)
    go_enter Try.func19, Try.ntmps19
    go_wp2_with (first | (go_at_call 64; refine (isSmall_any _ _ _ _ _ _ _).mono ?_; rintro e wn ⟨rfl, hb⟩; first | (have h2 := after_call2 hb hcl hfr hlt (by ((repeat' (first | (with_reducible exact Below.refl _ _) | (with_reducible refine Below.alloc ?_ ?_ _) | (with_reducible refine Below.setCell ?_ ?_ _) | (with_reducible refine Below.drew ?_) | (with_reducible refine below_drewN ?_ _) | (with_reducible assumption) | (with_reducible refine below_after (by with_reducible assumption) ?_) | go_size)); done)); obtain ⟨hclx, hfrx, hltx, hsz⟩ := after_call hb; (try simp only [World.size_alloc, World.size_setCell, World.size_drew] at hclx hfrx hltx hsz); (try (have hszl := Nat.lt_of_succ_le hsz)); obtain ⟨hcl, hfr, hlt⟩ := h2) | (obtain ⟨hcl, hfr, hlt, hsz⟩ := after_call hb; (try simp only [World.size_alloc, World.size_setCell, World.size_drew] at hcl hfr hlt hsz))))
    go_ret
    exact ⟨by simp [isT, h], by (repeat' (first | (with_reducible exact Below.refl _ _) | (with_reducible refine Below.alloc ?_ ?_ _) | (with_reducible refine Below.setCell ?_ ?_ _) | (with_reducible refine Below.drew ?_) | (with_reducible refine below_drewN ?_ _) | (with_reducible assumption) | (with_reducible refine below_after (by with_reducible assumption) ?_) | go_size))⟩
  · obtain ⟨⟨h0, h1⟩, h2⟩ : (isS x0 y0 = true ∧ isS x1 y1 = true) ∧ isS x2 y2 = true := by simpa using h
    have H0 := Lib.hid ((isS_iff.1 h0).1.pt (isS_iff.1 h0).2)
    have H1 := Lib.hid ((isS_iff.1 h1).1.pt (isS_iff.1 h1).2)
    have H2 := Lib.hid ((isS_iff.1 h2).1.pt (isS_iff.1 h2).2)
    clear h0 h1 h2
    have hs20 : w.heap.size < w.heap.size + 1 + 1 := (by omega)
    go_enter Try.func19, Try.ntmps19
    go_wp2_with (first | (go_at_call 64; refine (isSmall_any _ _ _ _ _ _ _).mono ?_; rintro e wn ⟨rfl, hb⟩; first | (have h2 := after_call2 hb hcl hfr hlt (by ((repeat' (first | (with_reducible exact Below.refl _ _) | (with_reducible refine Below.alloc ?_ ?_ _) | (with_reducible refine Below.setCell ?_ ?_ _) | (with_reducible refine Below.drew ?_) | (with_reducible refine below_drewN ?_ _) | (with_reducible assumption) | (with_reducible refine below_after (by with_reducible assumption) ?_) | go_size)); done)); obtain ⟨hclx, hfrx, hltx, hsz⟩ := after_call hb; (try simp only [World.size_alloc, World.size_setCell, World.size_drew] at hclx hfrx hltx hsz); (try (have hszl := Nat.lt_of_succ_le hsz)); obtain ⟨hcl, hfr, hlt⟩ := h2) | (obtain ⟨hcl, hfr, hlt, hsz⟩ := after_call hb; (try simp only [World.size_alloc, World.size_setCell, World.size_drew] at hcl hfr hlt hsz))) | (go_at_call 65; refine (areaBetween_any _ _ _ _ _ _ _ H0.out H1.out H2.out).mono ?_; rintro e wn ⟨rfl, hb⟩; first | (have h2 := after_call2 hb hcl hfr hlt (by ((repeat' (first | (with_reducible exact Below.refl _ _) | (with_reducible refine Below.alloc ?_ ?_ _) | (with_reducible refine Below.setCell ?_ ?_ _) | (with_reducible refine Below.drew ?_) | (with_reducible refine below_drewN ?_ _) | (with_reducible assumption) | (with_reducible refine below_after (by with_reducible assumption) ?_) | go_size)); done)); obtain ⟨hclx, hfrx, hltx, hsz⟩ := after_call hb; (try simp only [World.size_alloc, World.size_setCell, World.size_drew] at hclx hfrx hltx hsz); (try (have hszl := Nat.lt_of_succ_le hsz)); obtain ⟨hcl, hfr, hlt⟩ := h2) | (obtain ⟨hcl, hfr, hlt, hsz⟩ := after_call hb; (try simp only [World.size_alloc, World.size_setCell, World.size_drew] at hcl hfr hlt hsz))))
    go_ret
    exact ⟨by simp [isT, h, bne], by (repeat' (first | (with_reducible exact Below.refl _ _) | (with_reducible refine Below.alloc ?_ ?_ _) | (with_reducible refine Below.setCell ?_ ?_ _) | (with_reducible refine Below.drew ?_) | (with_reducible refine below_drewN ?_ _) | (with_reducible assumption) | (with_reducible refine below_after (by with_reducible assumption) ?_) | go_size))⟩
set_option maxHeartbeats 1600000 in
theorem l04Is_any (x0 y0 x1 y1 x2 y2 : Int) (w : World) : Calls Try.prog 62 #[.agg #[.int .i64 x0, .int .i64 y0, .int .i64 x1, .int .i64 y1, .int .i64 x2, .int .i64 y2]] w fun e w' => e = .returned (.bool (isT x0 y0 x1 y1 x2 y2)) ∧ Below w.heap.size w w' := by
  cases px0 : inB x0 (-1000) 1000
  · skip
    have hs20 : w.heap.size < w.heap.size + 1 + 1 := (by omega)
    go_enter Try.func62, Try.ntmps62
    go_wp2
    refine wp_loop_rounds 4 ?_
    rw [rounds_succ]
    go_wp2_with (first | (go_at_call 74; refine (l01In_any _ _ _ _).mono ?_; rintro e wn ⟨rfl, rfl⟩))
    go_ret
    exact ⟨by simp [isT, isS_in, bne, px0], by (repeat' (first | (with_reducible exact Below.refl _ _) | (with_reducible refine Below.alloc ?_ ?_ _) | (with_reducible refine Below.setCell ?_ ?_ _) | (with_reducible refine Below.drew ?_) | (with_reducible refine below_drewN ?_ _) | (with_reducible assumption) | (with_reducible refine below_after (by with_reducible assumption) ?_) | go_size))⟩
  cases py0 : inB y0 (-1000) 1000
  · skip
    have hs20 : w.heap.size < w.heap.size + 1 + 1 := (by omega)
    go_enter Try.func62, Try.ntmps62
    go_wp2
    refine wp_loop_rounds 4 ?_
    rw [rounds_succ]
    go_wp2_with (first | (go_at_call 74; refine (l01In_any _ _ _ _).mono ?_; rintro e wn ⟨rfl, rfl⟩))
    go_ret
    exact ⟨by simp [isT, isS_in, bne, px0, py0], by (repeat' (first | (with_reducible exact Below.refl _ _) | (with_reducible refine Below.alloc ?_ ?_ _) | (with_reducible refine Below.setCell ?_ ?_ _) | (with_reducible refine Below.drew ?_) | (with_reducible refine below_drewN ?_ _) | (with_reducible assumption) | (with_reducible refine below_after (by with_reducible assumption) ?_) | go_size))⟩
  cases px1 : inB x1 (-1000) 1000
  · skip
    have hs20 : w.heap.size < w.heap.size + 1 + 1 := (by omega)
    go_enter Try.func62, Try.ntmps62
    go_wp2
    refine wp_loop_rounds 4 ?_
    rw [rounds_succ]
    go_wp2_with (first | (go_at_call 74; refine (l01In_any _ _ _ _).mono ?_; rintro e wn ⟨rfl, rfl⟩))
    rw [rounds_succ]
    go_wp2_with (first | (go_at_call 74; refine (l01In_any _ _ _ _).mono ?_; rintro e wn ⟨rfl, rfl⟩))
    go_ret
    exact ⟨by simp [isT, isS_in, bne, px0, py0, px1], by (repeat' (first | (with_reducible exact Below.refl _ _) | (with_reducible refine Below.alloc ?_ ?_ _) | (with_reducible refine Below.setCell ?_ ?_ _) | (with_reducible refine Below.drew ?_) | (with_reducible refine below_drewN ?_ _) | (with_reducible assumption) | (with_reducible refine below_after (by with_reducible assumption) ?_) | go_size))⟩
  cases py1 : inB y1 (-1000) 1000
  · skip
    have hs20 : w.heap.size < w.heap.size + 1 + 1 := (by omega)
    go_enter Try.func62, Try.ntmps62
    go_wp2
    refine wp_loop_rounds 4 ?_
    rw [rounds_succ]
    go_wp2_with (first | (go_at_call 74; refine (l01In_any _ _ _ _).mono ?_; rintro e wn ⟨rfl, rfl⟩))
    rw [rounds_succ]
    go_wp2_with (first | (go_at_call 74; refine (l01In_any _ _ _ _).mono ?_; rintro e wn ⟨rfl, rfl⟩))
    go_ret
    exact ⟨by simp [isT, isS_in, bne, px0, py0, px1, py1], by (repeat' (first | (with_reducible exact Below.refl _ _) | (with_reducible refine Below.alloc ?_ ?_ _) | (with_reducible refine Below.setCell ?_ ?_ _) | (with_reducible refine Below.drew ?_) | (with_reducible refine below_drewN ?_ _) | (with_reducible assumption) | (with_reducible refine below_after (by with_reducible assumption) ?_) | go_size))⟩
  cases px2 : inB x2 (-1000) 1000
  · skip
    have hs20 : w.heap.size < w.heap.size + 1 + 1 := (by omega)
    go_enter Try.func62, Try.ntmps62
    go_wp2
    refine wp_loop_rounds 4 ?_
    rw [rounds_succ]
    go_wp2_with (first | (go_at_call 74; refine (l01In_any _ _ _ _).mono ?_; rintro e wn ⟨rfl, rfl⟩))
    rw [rounds_succ]
    go_wp2_with (first | (go_at_call 74; refine (l01In_any _ _ _ _).mono ?_; rintro e wn ⟨rfl, rfl⟩))
    rw [rounds_succ]
    go_wp2_with (first | (go_at_call 74; refine (l01In_any _ _ _ _).mono ?_; rintro e wn ⟨rfl, rfl⟩))
    go_ret
    exact ⟨by simp [isT, isS_in, bne, px0, py0, px1, py1, px2], by (repeat' (first | (with_reducible exact Below.refl _ _) | (with_reducible refine Below.alloc ?_ ?_ _) | (with_reducible refine Below.setCell ?_ ?_ _) | (with_reducible refine Below.drew ?_) | (with_reducible refine below_drewN ?_ _) | (with_reducible assumption) | (with_reducible refine below_after (by with_reducible assumption) ?_) | go_size))⟩
  cases py2 : inB y2 (-1000) 1000
  · skip
    have hs20 : w.heap.size < w.heap.size + 1 + 1 := (by omega)
    go_enter Try.func62, Try.ntmps62
    go_wp2
    refine wp_loop_rounds 4 ?_
    rw [rounds_succ]
    go_wp2_with (first | (go_at_call 74; refine (l01In_any _ _ _ _).mono ?_; rintro e wn ⟨rfl, rfl⟩))
    rw [rounds_succ]
    go_wp2_with (first | (go_at_call 74; refine (l01In_any _ _ _ _).mono ?_; rintro e wn ⟨rfl, rfl⟩))
    rw [rounds_succ]
    go_wp2_with (first | (go_at_call 74; refine (l01In_any _ _ _ _).mono ?_; rintro e wn ⟨rfl, rfl⟩))
    go_ret
    exact ⟨by simp [isT, isS_in, bne, px0, py0, px1, py1, px2, py2], by (repeat' (first | (with_reducible exact Below.refl _ _) | (with_reducible refine Below.alloc ?_ ?_ _) | (with_reducible refine Below.setCell ?_ ?_ _) | (with_reducible refine Below.drew ?_) | (with_reducible refine below_drewN ?_ _) | (with_reducible assumption) | (with_reducible refine below_after (by with_reducible assumption) ?_) | go_size))⟩
  have H0 := Lib.hid ((isS_iff.1 (show isS x0 y0 = true by simp [isS_in, px0, py0])).1.pt (isS_iff.1 (show isS x0 y0 = true by simp [isS_in, px0, py0])).2)
  have H1 := Lib.hid ((isS_iff.1 (show isS x1 y1 = true by simp [isS_in, px1, py1])).1.pt (isS_iff.1 (show isS x1 y1 = true by simp [isS_in, px1, py1])).2)
  have H2 := Lib.hid ((isS_iff.1 (show isS x2 y2 = true by simp [isS_in, px2, py2])).1.pt (isS_iff.1 (show isS x2 y2 = true by simp [isS_in, px2, py2])).2)
  have hs20 : w.heap.size < w.heap.size + 1 + 1 := (by omega)
  go_enter Try.func62, Try.ntmps62
  go_wp2
  refine wp_loop_rounds 4 ?_
  rw [rounds_succ]
  go_wp2_with (first | (go_at_call 74; refine (l01In_any _ _ _ _).mono ?_; rintro e wn ⟨rfl, rfl⟩))
  rw [rounds_succ]
  go_wp2_with (first | (go_at_call 74; refine (l01In_any _ _ _ _).mono ?_; rintro e wn ⟨rfl, rfl⟩))
  rw [rounds_succ]
  go_wp2_with (first | (go_at_call 74; refine (l01In_any _ _ _ _).mono ?_; rintro e wn ⟨rfl, rfl⟩))
  rw [rounds_succ]
  go_wp2_with (first | (go_at_call 92; refine (l01Area_any _ _ _ _ _ _ _ H0.out H1.out H2.out).mono ?_; rintro e wn ⟨rfl, hb⟩; first | (have h2 := after_call2 hb hcl hfr hlt (by ((repeat' (first | (with_reducible exact Below.refl _ _) | (with_reducible refine Below.alloc ?_ ?_ _) | (with_reducible refine Below.setCell ?_ ?_ _) | (with_reducible refine Below.drew ?_) | (with_reducible refine below_drewN ?_ _) | (with_reducible assumption) | (with_reducible refine below_after (by with_reducible assumption) ?_) | go_size)); done)); obtain ⟨hclx, hfrx, hltx, hsz⟩ := after_call hb; (try simp only [World.size_alloc, World.size_setCell, World.size_drew] at hclx hfrx hltx hsz); (try (have hszl := Nat.lt_of_succ_le hsz)); obtain ⟨hcl, hfr, hlt⟩ := h2) | (obtain ⟨hcl, hfr, hlt, hsz⟩ := after_call hb; (try simp only [World.size_alloc, World.size_setCell, World.size_drew] at hcl hfr hlt hsz))))
  go_ret
  exact ⟨by simp [isT, isS_in, bne, px0, py0, px1, py1, px2, py2], by (repeat' (first | (with_reducible exact Below.refl _ _) | (with_reducible refine Below.alloc ?_ ?_ _) | (with_reducible refine Below.setCell ?_ ?_ _) | (with_reducible refine Below.drew ?_) | (with_reducible refine below_drewN ?_ _) | (with_reducible assumption) | (with_reducible refine below_after (by with_reducible assumption) ?_) | go_size))⟩
end Go.Proofs.Ytcgaikedbhdbgaa
