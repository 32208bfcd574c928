/-
  The walk of laws.FnExactAddPoints: for all arguments it returns true and leaves memory as it was. No conditions.
-/
import Derived.Test.YtdehiiloiphmpaaAdd
import Derived.Test.YtdehiiloiphmpaaEq
import Derived.Deep.DeepCutAuto
namespace Go.Proofs.Ytdehiiloiphmpaa
open Go.ChangeShapes Go.WideShapes Go.ChangeAt Go.RowKit
set_option linter.unusedVariables false
set_option linter.unusedSimpArgs false

set_option maxHeartbeats 1000000 in
theorem walkFnExactAddPoints_any (x0 y0 x1 y1 k X Y C : Int) (w : World)
    (hS : ∀ w, Calls Try.prog 38 #[.agg #[.int .i64 x0, .int .i64 y0], .agg #[.int .i64 x1, .int .i64 y1], .int .i64 k] w fun e w' => e = .returned (.tuple #[.agg #[.int .i64 X, .int .i64 Y], .int .i64 C]) ∧ Below w.heap.size w w')
    (hI : ∀ w, Calls Try.prog 37 #[.agg #[.int .i64 x0, .int .i64 y0], .agg #[.int .i64 x1, .int .i64 y1], .int .i64 k] w fun e w' => e = .returned (.tuple #[.agg #[.int .i64 X, .int .i64 Y], .int .i64 C]) ∧ Below w.heap.size w w') :
    Calls Try.prog 5 #[.agg #[.int .i64 x0, .int .i64 y0], .agg #[.int .i64 x1, .int .i64 y1], .int .i64 k] w fun e w' => e = .returned (.bool true) ∧ Below w.heap.size w w' := by
  have HS := Lib.hid hS
  have HI := Lib.hid hI
  clear hS hI
  have hs20 : w.heap.size < w.heap.size + 1 + 1 := (by omega); have hs30 : w.heap.size < w.heap.size + 1 + 1 + 1 := (by omega); have hs31 : w.heap.size + 1 < w.heap.size + 1 + 1 + 1 := (by omega); have hs40 : w.heap.size < w.heap.size + 1 + 1 + 1 + 1 := (by omega); have hs41 : w.heap.size + 1 < w.heap.size + 1 + 1 + 1 + 1 := (by omega); have hs42 : w.heap.size + 1 + 1 < w.heap.size + 1 + 1 + 1 + 1 := (by omega)
  go_enter Try.func5, Try.ntmps5
  go_upto_region 1 with fail
  obtain ⟨wB, hwB⟩ : ∃ wB, wB = (w.alloc (.cells #[.int .i64 x0, .int .i64 y0] 24)).alloc (.cells #[.int .i64 x1, .int .i64 y1] 24) := ⟨_, rfl⟩
  rw [← hwB]
  have hbs : wB.heap.size = w.heap.size + 1 + 1 := by rw [hwB]; simp
  have HBW : Hid (Below w.heap.size w wB) := by
    show Below w.heap.size w wB
    rw [hwB]; (repeat' (first | (with_reducible exact Below.refl _ _) | (with_reducible refine Below.alloc ?_ ?_ _) | (with_reducible refine Below.setCell ?_ ?_ _) | (with_reducible refine Below.drew ?_) | (with_reducible refine below_drewN ?_ _) | (with_reducible assumption) | (with_reducible refine below_after (by with_reducible assumption) ?_) | go_size))
  have HK : Hid (∀ W', Below wB.heap.size wB W' → W'.cell? ⟨w.heap.size, 0, none⟩ = some (.int .i64 x0) ∧ W'.cell? ⟨w.heap.size, 1, none⟩ = some (.int .i64 y0) ∧ W'.cell? ⟨w.heap.size + 1, 0, none⟩ = some (.int .i64 x1) ∧ W'.cell? ⟨w.heap.size + 1, 1, none⟩ = some (.int .i64 y1) ∧ w.heap.size + 1 < W'.heap.size) := by
    intro W' hB
    have hz := hB.size
    refine ⟨?_, ?_, ?_, ?_, by omega⟩
    · rw [(bcell hB).1 _ _ (by omega), hwB]; go_cell
    · rw [(bcell hB).1 _ _ (by omega), hwB]; go_cell
    · rw [(bcell hB).1 _ _ (by omega), hwB]; go_cell
    · rw [(bcell hB).1 _ _ (by omega), hwB]; go_cell
  have hbs2 : w.heap.size + 1 + 1 ≤ wB.heap.size := by omega
  have hbs3 : wB.heap.size ≤ w.heap.size + 1 + 1 := by omega
  clear hwB hbs
  go_cut [7, 8] (fun v7 v8 wx => ∃ p : Nat, v7 = .pointer (some ⟨p, 0, none⟩) ∧ v8 = .int .i64 C ∧ wx.cell? ⟨p, 0, none⟩ = some (.int .i64 X) ∧ wx.cell? ⟨p, 1, none⟩ = some (.int .i64 Y) ∧ p < wx.heap.size ∧ wB.heap.size ≤ p ∧ Below wB.heap.size wB wx)
  case first =>
    go_region_held3 (fun W => W.cell? ⟨w.heap.size, 0, none⟩ = some (.int .i64 x0) ∧ W.cell? ⟨w.heap.size, 1, none⟩ = some (.int .i64 y0) ∧ W.cell? ⟨w.heap.size + 1, 0, none⟩ = some (.int .i64 x1) ∧ W.cell? ⟨w.heap.size + 1, 1, none⟩ = some (.int .i64 y1) ∧ w.heap.size + 1 < W.heap.size) ((refine (HK.out _ ?_); repeat' (first | (with_reducible refine Below.alloc ?_ ?_ _) | (with_reducible refine Below.setCell ?_ ?_ _) | (with_reducible refine Below.drew ?_) | (with_reducible exact Below.refl _ _) | (with_reducible refine below_after (by with_reducible assumption) ?_) | (first | omega | (simp only [World.size_alloc, World.size_drew, World.size_setCell]; omega))))) (first | (go_at_call 46; refine (toPoint_any _ _ _).mono ?_; rintro e wn ⟨rfl, hb⟩; have hsz := hb.size; (try simp only [World.size_alloc, World.size_setCell, World.size_drew] at hsz); first | (revert hb; with_reducible change Below (World.heap (World.alloc _ _)).size (World.alloc _ _) _ → _; intro hb; have hnw := after_new hb; (try simp only [World.size_alloc, World.size_drew] at hnw)) | (revert hb; with_reducible change Below (World.heap (World.drew (World.alloc _ _))).size (World.drew (World.alloc _ _)) _ → _; intro hb; have hnw := after_newd hb; (try simp only [World.size_alloc, World.size_drew] at hnw)) | (revert hnw; with_reducible change (World.cell? _ _ = some _ ∧ World.cell? _ _ = some _ ∧ World.frozen? _ _ = false ∧ World.frozen? _ _ = false ∧ (_ : Nat) < _) → _; intro hnw; have hnw := after_old hb hnw) | skip) | (go_at_call 38; refine (HS.out _).mono ?_; rintro e wn ⟨rfl, hb⟩; have hsz := hb.size; (try simp only [World.size_alloc, World.size_setCell, World.size_drew] at hsz); first | (revert hb; with_reducible change Below (World.heap (World.alloc _ _)).size (World.alloc _ _) _ → _; intro hb; have hnw := after_new hb; (try simp only [World.size_alloc, World.size_drew] at hnw)) | (revert hb; with_reducible change Below (World.heap (World.drew (World.alloc _ _))).size (World.drew (World.alloc _ _)) _ → _; intro hb; have hnw := after_newd hb; (try simp only [World.size_alloc, World.size_drew] at hnw)) | (revert hnw; with_reducible change (World.cell? _ _ = some _ ∧ World.cell? _ _ = some _ ∧ World.frozen? _ _ = false ∧ World.frozen? _ _ = false ∧ (_ : Nat) < _) → _; intro hnw; have hnw := after_old hb hnw) | skip))
    all_goals
      go_wp2_with fail
      go_meet
      refine ⟨_, rfl, rfl, ?_, ?_, ?_, ?_, ?_⟩
      all_goals first | (go_cell; done) | (simp [*]; done) | (simp only [World.size_alloc, World.size_drew, World.size_setCell]; omega) | ((repeat' (first | (with_reducible exact Below.refl _ _) | (with_reducible refine Below.alloc ?_ ?_ _) | (with_reducible refine Below.setCell ?_ ?_ _) | (with_reducible refine Below.drew ?_) | (with_reducible refine below_drewN ?_ _) | (with_reducible assumption) | (with_reducible refine below_after (by with_reducible assumption) ?_) | go_size)); done)
  case rest =>
    obtain ⟨p, rfl, rfl, c0, c1, hp1, hp2, hBx⟩ := hcut
    have hxs := hBx.size
    have HK2 : Hid (∀ W', Below wc.heap.size wc W' → W'.cell? ⟨w.heap.size, 0, none⟩ = some (.int .i64 x0) ∧ W'.cell? ⟨w.heap.size, 1, none⟩ = some (.int .i64 y0) ∧ W'.cell? ⟨w.heap.size + 1, 0, none⟩ = some (.int .i64 x1) ∧ W'.cell? ⟨w.heap.size + 1, 1, none⟩ = some (.int .i64 y1) ∧ w.heap.size + 1 < W'.heap.size) := by
      intro W' hB
      have hz := hB.size
      obtain ⟨h1, h2, h3, h4, h5⟩ := HK.out W' (hBx.trans (hB.mono hxs))
      exact ⟨h1, h2, h3, h4, by omega⟩
    go_upto_region 2 with fail
    go_cut [9, 10] (fun v9 v10 wx => ∃ q : Nat, v9 = .pointer (some ⟨q, 0, none⟩) ∧ v10 = .int .i64 C ∧ wx.cell? ⟨q, 0, none⟩ = some (.int .i64 X) ∧ wx.cell? ⟨q, 1, none⟩ = some (.int .i64 Y) ∧ Below wc.heap.size wc wx)
    case first =>
      go_region_held3 (fun W => W.cell? ⟨w.heap.size, 0, none⟩ = some (.int .i64 x0) ∧ W.cell? ⟨w.heap.size, 1, none⟩ = some (.int .i64 y0) ∧ W.cell? ⟨w.heap.size + 1, 0, none⟩ = some (.int .i64 x1) ∧ W.cell? ⟨w.heap.size + 1, 1, none⟩ = some (.int .i64 y1) ∧ w.heap.size + 1 < W.heap.size) ((refine (HK2.out _ ?_); repeat' (first | (with_reducible refine Below.alloc ?_ ?_ _) | (with_reducible refine Below.setCell ?_ ?_ _) | (with_reducible refine Below.drew ?_) | (with_reducible exact Below.refl _ _) | (with_reducible refine below_after (by with_reducible assumption) ?_) | (first | omega | (simp only [World.size_alloc, World.size_drew, World.size_setCell]; omega))))) (first | (go_at_call 46; refine (toPoint_any _ _ _).mono ?_; rintro e wn ⟨rfl, hb⟩; have hsz := hb.size; (try simp only [World.size_alloc, World.size_setCell, World.size_drew] at hsz); first | (revert hb; with_reducible change Below (World.heap (World.alloc _ _)).size (World.alloc _ _) _ → _; intro hb; have hnw := after_new hb; (try simp only [World.size_alloc, World.size_drew] at hnw)) | (revert hb; with_reducible change Below (World.heap (World.drew (World.alloc _ _))).size (World.drew (World.alloc _ _)) _ → _; intro hb; have hnw := after_newd hb; (try simp only [World.size_alloc, World.size_drew] at hnw)) | (revert hnw; with_reducible change (World.cell? _ _ = some _ ∧ World.cell? _ _ = some _ ∧ World.frozen? _ _ = false ∧ World.frozen? _ _ = false ∧ (_ : Nat) < _) → _; intro hnw; have hnw := after_old hb hnw) | skip) | (go_at_call 37; refine (HI.out _).mono ?_; rintro e wn ⟨rfl, hb⟩; have hsz := hb.size; (try simp only [World.size_alloc, World.size_setCell, World.size_drew] at hsz); first | (revert hb; with_reducible change Below (World.heap (World.alloc _ _)).size (World.alloc _ _) _ → _; intro hb; have hnw := after_new hb; (try simp only [World.size_alloc, World.size_drew] at hnw)) | (revert hb; with_reducible change Below (World.heap (World.drew (World.alloc _ _))).size (World.drew (World.alloc _ _)) _ → _; intro hb; have hnw := after_newd hb; (try simp only [World.size_alloc, World.size_drew] at hnw)) | (revert hnw; with_reducible change (World.cell? _ _ = some _ ∧ World.cell? _ _ = some _ ∧ World.frozen? _ _ = false ∧ World.frozen? _ _ = false ∧ (_ : Nat) < _) → _; intro hnw; have hnw := after_old hb hnw) | skip))
      all_goals
        go_wp2_with fail
        go_meet
        refine ⟨_, rfl, rfl, ?_, ?_, ?_⟩
        all_goals first | (go_cell; done) | (simp [*]; done) | (simp only [World.size_alloc, World.size_drew, World.size_setCell]; omega) | ((repeat' (first | (with_reducible exact Below.refl _ _) | (with_reducible refine Below.alloc ?_ ?_ _) | (with_reducible refine Below.setCell ?_ ?_ _) | (with_reducible refine Below.drew ?_) | (with_reducible refine below_drewN ?_ _) | (with_reducible assumption) | (with_reducible refine below_after (by with_reducible assumption) ?_) | go_size)); done)
    case rest =>
      obtain ⟨q, rfl, rfl, d0, d1, hBy⟩ := hcut
      have e0 := (hBy.cell (p := ⟨p, 0, none⟩) hp1).trans c0
      have e1 := (hBy.cell (p := ⟨p, 1, none⟩) hp1).trans c1
      go_wp2_with (first | (go_at_call 48; refine (eqPoint_same _ _ _).mono ?_; rintro e wn ⟨rfl, hb⟩; have hsz := hb.size; (try simp only [World.size_alloc, World.size_setCell, World.size_drew] at hsz); first | (revert hb; with_reducible change Below (World.heap (World.alloc _ _)).size (World.alloc _ _) _ → _; intro hb; have hnw := after_new hb; (try simp only [World.size_alloc, World.size_drew] at hnw)) | (revert hb; with_reducible change Below (World.heap (World.drew (World.alloc _ _))).size (World.drew (World.alloc _ _)) _ → _; intro hb; have hnw := after_newd hb; (try simp only [World.size_alloc, World.size_drew] at hnw)) | (revert hnw; with_reducible change (World.cell? _ _ = some _ ∧ World.cell? _ _ = some _ ∧ World.frozen? _ _ = false ∧ World.frozen? _ _ = false ∧ (_ : Nat) < _) → _; intro hnw; have hnw := after_old hb hnw) | skip))
      go_ret
      exact ⟨rfl, below_after hb (below_after hBy (below_after hBx HBW.out))⟩
theorem walkFnExactAddPoints (x0 y0 x1 y1 k : Int) (wx0 : (Lit.int .i64 x0).wf = true) (wy0 : (Lit.int .i64 y0).wf = true) (wx1 : (Lit.int .i64 x1).wf = true) (wy1 : (Lit.int .i64 y1).wf = true) (wk : (Lit.int .i64 k).wf = true) (w : World) :
    Calls Try.prog 5 #[.agg #[.int .i64 x0, .int .i64 y0], .agg #[.int .i64 x1, .int .i64 y1], .int .i64 k] w fun e w' => e = .returned (.bool true) ∧ Below w.heap.size w w' := by
  cases hn : (isPt (x0, y0) && isPt (x1, y1))
  · exact walkFnExactAddPoints_any x0 y0 x1 y1 k 0 0 1 w (fun w => spec_AddPoints_no _ _ _ _ _ w hn) (fun w => impl_AddPoints_no _ _ _ _ _ w hn)
  · simp only [Bool.and_eq_true] at hn
    obtain ⟨k0, k1⟩ := hn
    cases hk : crd k
    · exact walkFnExactAddPoints_any x0 y0 x1 y1 k 0 0 2 w (fun w => spec_AddPoints_range _ _ _ _ _ w k0 k1 hk) (fun w => impl_AddPoints_range _ _ _ _ _ w k0 k1 hk)
    · cases hs : isPt (x0 + k * x1, y0 + k * y1)
      · exact walkFnExactAddPoints_any x0 y0 x1 y1 k 0 0 3 w (fun w => spec_AddPoints_limit _ _ _ _ _ w k0 k1 hk hs) (fun w => impl_AddPoints_limit _ _ _ _ _ w k0 k1 hk hs)
      · exact walkFnExactAddPoints_any x0 y0 x1 y1 k _ _ 0 w (fun w => spec_AddPoints_yes _ _ _ _ _ w k0 k1 hk hs) (fun w => impl_AddPoints_yes _ _ _ _ _ w k0 k1 hk hs)
end Go.Proofs.Ytdehiiloiphmpaa
