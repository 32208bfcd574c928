/-
  The walk of laws.FnExactSumOfCorners: for all arguments it returns true and leaves memory as it was. No conditions.
-/
import Derived.Test.YtfnnieohmdmgkabSum3
import Derived.Test.YtfnnieohmdmgkabSum5
import Derived.Test.YtfnnieohmdmgkabEq
import Derived.Test.YtfnnieohmdmgkabMul
import Derived.Deep.DeepCutAuto
namespace Go.Proofs.Ytfnnieohmdmgkab
open Go.ChangeShapes Go.WideShapes Go.ChangeAt Go.RowKit
set_option linter.unusedVariables false
set_option maxRecDepth 100000
set_option linter.unusedSimpArgs false

set_option maxHeartbeats 1600000 in
theorem walkFnExactSumOfCorners_any (x0 x1 x2 x3 x4 x5 x6 x7 x8 R0 R1 R2 R3 C : Int) (w : World)
    (hS : ∀ w, Calls Try.prog 14 #[.agg #[.int .i64 x0, .int .i64 x1, .int .i64 x2, .int .i64 x3], .agg #[.int .i64 x4, .int .i64 x5, .int .i64 x6, .int .i64 x7], .int .i64 x8] w fun e w' => e = .returned (.tuple #[.agg #[.int .i64 R0, .int .i64 R1, .int .i64 R2, .int .i64 R3], .int .i64 C]) ∧ Below w.heap.size w w')
    (hI : ∀ w, Calls Try.prog 15 #[.agg #[.int .i64 x0, .int .i64 x1, .int .i64 x2, .int .i64 x3], .agg #[.int .i64 x4, .int .i64 x5, .int .i64 x6, .int .i64 x7], .int .i64 x8] w fun e w' => e = .returned (.tuple #[.agg #[.int .i64 R0, .int .i64 R1, .int .i64 R2, .int .i64 R3], .int .i64 C]) ∧ Below w.heap.size w w') :
    Calls Try.prog 4 #[.agg #[.int .i64 x0, .int .i64 x1, .int .i64 x2, .int .i64 x3], .agg #[.int .i64 x4, .int .i64 x5, .int .i64 x6, .int .i64 x7], .int .i64 x8] w fun e w' => e = .returned (.bool true) ∧ Below w.heap.size w w' := by
  have HS := Lib.hid hS
  have HI := Lib.hid hI
  clear hS hI
  have hs20 : w.heap.size < w.heap.size + 1 + 1 := (by omega); have hs30 : w.heap.size < w.heap.size + 1 + 1 + 1 := (by omega); have hs31 : w.heap.size + 1 < w.heap.size + 1 + 1 + 1 := (by omega); have hs40 : w.heap.size < w.heap.size + 1 + 1 + 1 + 1 := (by omega); have hs41 : w.heap.size + 1 < w.heap.size + 1 + 1 + 1 + 1 := (by omega); have hs42 : w.heap.size + 1 + 1 < w.heap.size + 1 + 1 + 1 + 1 := (by omega)
  go_enter Try.func4, Try.ntmps4
  go_upto_region 1 with fail
  obtain ⟨wB, hwB⟩ : ∃ wB, wB = (w.alloc (.cells #[.int .i64 x0, .int .i64 x1, .int .i64 x2, .int .i64 x3] 24)).alloc (.cells #[.int .i64 x4, .int .i64 x5, .int .i64 x6, .int .i64 x7] 24) := ⟨_, rfl⟩
  rw [← hwB]
  have hbs : wB.heap.size = w.heap.size + 1 + 1 := by rw [hwB]; simp
  have HBW : Hid (Below w.heap.size w wB) := by
    show Below w.heap.size w wB
    rw [hwB]; (repeat' (first | (with_reducible exact Below.refl _ _) | (with_reducible refine Below.alloc ?_ ?_ _) | (with_reducible refine Below.setCell ?_ ?_ _) | (with_reducible refine Below.drew ?_) | (with_reducible refine below_drewN ?_ _) | (with_reducible assumption) | (with_reducible refine below_after (by with_reducible assumption) ?_) | go_size))
  have HK : Hid (∀ W', Below wB.heap.size wB W' → W'.cell? ⟨w.heap.size, 0, none⟩ = some (.int .i64 x0) ∧ W'.cell? ⟨w.heap.size, 1, none⟩ = some (.int .i64 x1) ∧ W'.cell? ⟨w.heap.size, 2, none⟩ = some (.int .i64 x2) ∧ W'.cell? ⟨w.heap.size, 3, none⟩ = some (.int .i64 x3) ∧ W'.cell? ⟨w.heap.size + 1, 0, none⟩ = some (.int .i64 x4) ∧ W'.cell? ⟨w.heap.size + 1, 1, none⟩ = some (.int .i64 x5) ∧ W'.cell? ⟨w.heap.size + 1, 2, none⟩ = some (.int .i64 x6) ∧ W'.cell? ⟨w.heap.size + 1, 3, none⟩ = some (.int .i64 x7) ∧ w.heap.size + 1 < W'.heap.size) := by
    intro W' hB
    have hz := hB.size
    refine ⟨?_, ?_, ?_, ?_, ?_, ?_, ?_, ?_, by omega⟩
    all_goals (rw [(bcell hB).1 _ _ (by omega), hwB]; go_cell)
  have hbs2 : w.heap.size + 1 + 1 ≤ wB.heap.size := by omega
  have hbs3 : wB.heap.size ≤ w.heap.size + 1 + 1 := by omega
  clear hwB hbs
  go_cut [7, 8] (fun v7 v8 wx => ∃ p : Nat, v7 = .pointer (some ⟨p, 0, none⟩) ∧ v8 = .int .i64 C ∧ wx.cell? ⟨p, 0, none⟩ = some (.int .i64 R0) ∧ wx.cell? ⟨p, 1, none⟩ = some (.int .i64 R1) ∧ wx.cell? ⟨p, 2, none⟩ = some (.int .i64 R2) ∧ wx.cell? ⟨p, 3, none⟩ = some (.int .i64 R3) ∧ p < wx.heap.size ∧ wB.heap.size ≤ p ∧ Below wB.heap.size wB wx)
  case first =>
    go_region_held3 (fun W => W.cell? ⟨w.heap.size, 0, none⟩ = some (.int .i64 x0) ∧ W.cell? ⟨w.heap.size, 1, none⟩ = some (.int .i64 x1) ∧ W.cell? ⟨w.heap.size, 2, none⟩ = some (.int .i64 x2) ∧ W.cell? ⟨w.heap.size, 3, none⟩ = some (.int .i64 x3) ∧ W.cell? ⟨w.heap.size + 1, 0, none⟩ = some (.int .i64 x4) ∧ W.cell? ⟨w.heap.size + 1, 1, none⟩ = some (.int .i64 x5) ∧ W.cell? ⟨w.heap.size + 1, 2, none⟩ = some (.int .i64 x6) ∧ W.cell? ⟨w.heap.size + 1, 3, none⟩ = some (.int .i64 x7) ∧ w.heap.size + 1 < W.heap.size) ((refine (HK.out _ ?_); repeat' (first | (with_reducible refine Below.alloc ?_ ?_ _) | (with_reducible refine Below.setCell ?_ ?_ _) | (with_reducible refine Below.drew ?_) | (with_reducible exact Below.refl _ _) | (with_reducible refine below_after (by with_reducible assumption) ?_) | (first | omega | (simp only [World.size_alloc, World.size_drew, World.size_setCell]; omega))))) (first | (go_at_call 9; refine (toCorner_any _ _ _ _ _).mono ?_; rintro e wn ⟨rfl, hb⟩; have hsz := hb.size; (try simp only [World.size_alloc, World.size_setCell, World.size_drew] at hsz); first | (revert hb; with_reducible change Below (World.heap (World.alloc _ _)).size (World.alloc _ _) _ → _; intro hb; have hnw := after_new4 hb; (try simp only [World.size_alloc, World.size_drew] at hnw)) | (revert hb; with_reducible change Below (World.heap (World.drew (World.alloc _ _))).size (World.drew (World.alloc _ _)) _ → _; intro hb; have hnw := after_newd4 hb; (try simp only [World.size_alloc, World.size_drew] at hnw)) | (revert hnw; with_reducible change (World.cell? _ _ = some _ ∧ World.cell? _ _ = some _ ∧ World.cell? _ _ = some _ ∧ World.cell? _ _ = some _ ∧ World.frozen? _ _ = false ∧ World.frozen? _ _ = false ∧ World.frozen? _ _ = false ∧ World.frozen? _ _ = false ∧ (_ : Nat) < _) → _; intro hnw; have hnw := after_old4 hb hnw) | skip) | (go_at_call 14; refine (HS.out _).mono ?_; rintro e wn ⟨rfl, hb⟩; have hsz := hb.size; (try simp only [World.size_alloc, World.size_setCell, World.size_drew] at hsz); first | (revert hb; with_reducible change Below (World.heap (World.alloc _ _)).size (World.alloc _ _) _ → _; intro hb; have hnw := after_new4 hb; (try simp only [World.size_alloc, World.size_drew] at hnw)) | (revert hb; with_reducible change Below (World.heap (World.drew (World.alloc _ _))).size (World.drew (World.alloc _ _)) _ → _; intro hb; have hnw := after_newd4 hb; (try simp only [World.size_alloc, World.size_drew] at hnw)) | (revert hnw; with_reducible change (World.cell? _ _ = some _ ∧ World.cell? _ _ = some _ ∧ World.cell? _ _ = some _ ∧ World.cell? _ _ = some _ ∧ World.frozen? _ _ = false ∧ World.frozen? _ _ = false ∧ World.frozen? _ _ = false ∧ World.frozen? _ _ = false ∧ (_ : Nat) < _) → _; intro hnw; have hnw := after_old4 hb hnw) | skip))
    all_goals
      go_wp2_with fail
      go_meet
      refine ⟨_, rfl, rfl, ?_, ?_, ?_, ?_, ?_, ?_, ?_⟩
      all_goals first | (go_cell; done) | (simp [*]; done) | (simp only [World.size_alloc, World.size_drew, World.size_setCell]; omega) | ((repeat' (first | (with_reducible exact Below.refl _ _) | (with_reducible refine Below.alloc ?_ ?_ _) | (with_reducible refine Below.setCell ?_ ?_ _) | (with_reducible refine Below.drew ?_) | (with_reducible refine below_drewN ?_ _) | (with_reducible assumption) | (with_reducible refine below_after (by with_reducible assumption) ?_) | go_size)); done)
  case rest =>
    obtain ⟨p, rfl, rfl, c0, c1, c2, c3, hp1, hp2, hBx⟩ := hcut
    have hxs := hBx.size
    have HK2 : Hid (∀ W', Below wc.heap.size wc W' → W'.cell? ⟨w.heap.size, 0, none⟩ = some (.int .i64 x0) ∧ W'.cell? ⟨w.heap.size, 1, none⟩ = some (.int .i64 x1) ∧ W'.cell? ⟨w.heap.size, 2, none⟩ = some (.int .i64 x2) ∧ W'.cell? ⟨w.heap.size, 3, none⟩ = some (.int .i64 x3) ∧ W'.cell? ⟨w.heap.size + 1, 0, none⟩ = some (.int .i64 x4) ∧ W'.cell? ⟨w.heap.size + 1, 1, none⟩ = some (.int .i64 x5) ∧ W'.cell? ⟨w.heap.size + 1, 2, none⟩ = some (.int .i64 x6) ∧ W'.cell? ⟨w.heap.size + 1, 3, none⟩ = some (.int .i64 x7) ∧ w.heap.size + 1 < W'.heap.size) := by
      intro W' hB
      have hz := hB.size
      obtain ⟨h0, h1, h2, h3, h4, h5, h6, h7, hl⟩ := HK.out W' (hBx.trans (hB.mono hxs))
      exact ⟨h0, h1, h2, h3, h4, h5, h6, h7, by omega⟩
    go_upto_region 2 with fail
    go_cut [9, 10] (fun v9 v10 wx => ∃ q : Nat, v9 = .pointer (some ⟨q, 0, none⟩) ∧ v10 = .int .i64 C ∧ wx.cell? ⟨q, 0, none⟩ = some (.int .i64 R0) ∧ wx.cell? ⟨q, 1, none⟩ = some (.int .i64 R1) ∧ wx.cell? ⟨q, 2, none⟩ = some (.int .i64 R2) ∧ wx.cell? ⟨q, 3, none⟩ = some (.int .i64 R3) ∧ Below wc.heap.size wc wx)
    case first =>
      go_region_held3 (fun W => W.cell? ⟨w.heap.size, 0, none⟩ = some (.int .i64 x0) ∧ W.cell? ⟨w.heap.size, 1, none⟩ = some (.int .i64 x1) ∧ W.cell? ⟨w.heap.size, 2, none⟩ = some (.int .i64 x2) ∧ W.cell? ⟨w.heap.size, 3, none⟩ = some (.int .i64 x3) ∧ W.cell? ⟨w.heap.size + 1, 0, none⟩ = some (.int .i64 x4) ∧ W.cell? ⟨w.heap.size + 1, 1, none⟩ = some (.int .i64 x5) ∧ W.cell? ⟨w.heap.size + 1, 2, none⟩ = some (.int .i64 x6) ∧ W.cell? ⟨w.heap.size + 1, 3, none⟩ = some (.int .i64 x7) ∧ w.heap.size + 1 < W.heap.size) ((refine (HK2.out _ ?_); repeat' (first | (with_reducible refine Below.alloc ?_ ?_ _) | (with_reducible refine Below.setCell ?_ ?_ _) | (with_reducible refine Below.drew ?_) | (with_reducible exact Below.refl _ _) | (with_reducible refine below_after (by with_reducible assumption) ?_) | (first | omega | (simp only [World.size_alloc, World.size_drew, World.size_setCell]; omega))))) (first | (go_at_call 9; refine (toCorner_any _ _ _ _ _).mono ?_; rintro e wn ⟨rfl, hb⟩; have hsz := hb.size; (try simp only [World.size_alloc, World.size_setCell, World.size_drew] at hsz); first | (revert hb; with_reducible change Below (World.heap (World.alloc _ _)).size (World.alloc _ _) _ → _; intro hb; have hnw := after_new4 hb; (try simp only [World.size_alloc, World.size_drew] at hnw)) | (revert hb; with_reducible change Below (World.heap (World.drew (World.alloc _ _))).size (World.drew (World.alloc _ _)) _ → _; intro hb; have hnw := after_newd4 hb; (try simp only [World.size_alloc, World.size_drew] at hnw)) | (revert hnw; with_reducible change (World.cell? _ _ = some _ ∧ World.cell? _ _ = some _ ∧ World.cell? _ _ = some _ ∧ World.cell? _ _ = some _ ∧ World.frozen? _ _ = false ∧ World.frozen? _ _ = false ∧ World.frozen? _ _ = false ∧ World.frozen? _ _ = false ∧ (_ : Nat) < _) → _; intro hnw; have hnw := after_old4 hb hnw) | skip) | (go_at_call 15; refine (HI.out _).mono ?_; rintro e wn ⟨rfl, hb⟩; have hsz := hb.size; (try simp only [World.size_alloc, World.size_setCell, World.size_drew] at hsz); first | (revert hb; with_reducible change Below (World.heap (World.alloc _ _)).size (World.alloc _ _) _ → _; intro hb; have hnw := after_new4 hb; (try simp only [World.size_alloc, World.size_drew] at hnw)) | (revert hb; with_reducible change Below (World.heap (World.drew (World.alloc _ _))).size (World.drew (World.alloc _ _)) _ → _; intro hb; have hnw := after_newd4 hb; (try simp only [World.size_alloc, World.size_drew] at hnw)) | (revert hnw; with_reducible change (World.cell? _ _ = some _ ∧ World.cell? _ _ = some _ ∧ World.cell? _ _ = some _ ∧ World.cell? _ _ = some _ ∧ World.frozen? _ _ = false ∧ World.frozen? _ _ = false ∧ World.frozen? _ _ = false ∧ World.frozen? _ _ = false ∧ (_ : Nat) < _) → _; intro hnw; have hnw := after_old4 hb hnw) | skip))
      all_goals
        go_wp2_with fail
        go_meet
        refine ⟨_, rfl, rfl, ?_, ?_, ?_, ?_, ?_⟩
        all_goals first | (go_cell; done) | (simp [*]; done) | (simp only [World.size_alloc, World.size_drew, World.size_setCell]; omega) | ((repeat' (first | (with_reducible exact Below.refl _ _) | (with_reducible refine Below.alloc ?_ ?_ _) | (with_reducible refine Below.setCell ?_ ?_ _) | (with_reducible refine Below.drew ?_) | (with_reducible refine below_drewN ?_ _) | (with_reducible assumption) | (with_reducible refine below_after (by with_reducible assumption) ?_) | go_size)); done)
    case rest =>
      obtain ⟨q, rfl, rfl, d0, d1, d2, d3, hBy⟩ := hcut
      have e0 := (hBy.cell (p := ⟨p, 0, none⟩) hp1).trans c0
      have e1 := (hBy.cell (p := ⟨p, 1, none⟩) hp1).trans c1
      have e2 := (hBy.cell (p := ⟨p, 2, none⟩) hp1).trans c2
      have e3 := (hBy.cell (p := ⟨p, 3, none⟩) hp1).trans c3
      go_wp2_with (first | (go_at_call 16; refine (eqCorner_same _ _ _ _ _).mono ?_; rintro e wn ⟨rfl, hb⟩; have hsz := hb.size; (try simp only [World.size_alloc, World.size_setCell, World.size_drew] at hsz); first | (revert hb; with_reducible change Below (World.heap (World.alloc _ _)).size (World.alloc _ _) _ → _; intro hb; have hnw := after_new4 hb; (try simp only [World.size_alloc, World.size_drew] at hnw)) | (revert hb; with_reducible change Below (World.heap (World.drew (World.alloc _ _))).size (World.drew (World.alloc _ _)) _ → _; intro hb; have hnw := after_newd4 hb; (try simp only [World.size_alloc, World.size_drew] at hnw)) | (revert hnw; with_reducible change (World.cell? _ _ = some _ ∧ World.cell? _ _ = some _ ∧ World.cell? _ _ = some _ ∧ World.cell? _ _ = some _ ∧ World.frozen? _ _ = false ∧ World.frozen? _ _ = false ∧ World.frozen? _ _ = false ∧ World.frozen? _ _ = false ∧ (_ : Nat) < _) → _; intro hnw; have hnw := after_old4 hb hnw) | skip))
      go_ret
      exact ⟨rfl, below_after hb (below_after hBy (below_after hBx HBW.out))⟩
theorem walkFnExactSumOfCorners (x0 x1 x2 x3 x4 x5 x6 x7 x8 : Int) (wx0 : (Lit.int .i64 x0).wf = true) (wx1 : (Lit.int .i64 x1).wf = true) (wx2 : (Lit.int .i64 x2).wf = true) (wx3 : (Lit.int .i64 x3).wf = true) (wx4 : (Lit.int .i64 x4).wf = true) (wx5 : (Lit.int .i64 x5).wf = true) (wx6 : (Lit.int .i64 x6).wf = true) (wx7 : (Lit.int .i64 x7).wf = true) (wx8 : (Lit.int .i64 x8).wf = true) (w : World) :
    Calls Try.prog 4 #[.agg #[.int .i64 x0, .int .i64 x1, .int .i64 x2, .int .i64 x3], .agg #[.int .i64 x4, .int .i64 x5, .int .i64 x6, .int .i64 x7], .int .i64 x8] w fun e w' => e = .returned (.bool true) ∧ Below w.heap.size w w' :=
  walkFnExactSumOfCorners_any x0 x1 x2 x3 x4 x5 x6 x7 x8 _ _ _ _ _ w (fun w => spec_SumOfCorners_any _ _ _ _ _ _ _ _ _ w) (fun w => impl_SumOfCorners_any _ _ _ _ _ _ _ _ _ w)
end Go.Proofs.Ytfnnieohmdmgkab
