/-
  The walk of laws.FnExactConjugateMatrix: for all arguments it returns true and leaves memory as it was. No conditions.
-/
import Derived.Test.YtohnmogejidpdaaFoU
import Derived.Test.YtohnmogejidpdaaEq
import Derived.Deep.DeepCutAuto
namespace Go.Proofs.Ytohnmogejidpdaa
open Go.ChangeShapes Go.WideShapes Go.ChangeAt Go.RowKit
set_option linter.unusedVariables false
set_option linter.unusedSimpArgs false

set_option maxHeartbeats 1000000 in
theorem walkFnExactConjugateMatrix_any (a b c d e f g h X Y Z V C : Int) (w : World)
    (hS : ∀ w, Calls Try.prog 25 #[.agg #[.int .i64 a, .int .i64 b, .int .i64 c, .int .i64 d], .agg #[.int .i64 e, .int .i64 f, .int .i64 g, .int .i64 h]] w fun e1 w' => e1 = .returned (.tuple #[.agg #[.int .i64 X, .int .i64 Y, .int .i64 Z, .int .i64 V], .int .i64 C]) ∧ Below w.heap.size w w')
    (hI : ∀ w, Calls Try.prog 26 #[.agg #[.int .i64 a, .int .i64 b, .int .i64 c, .int .i64 d], .agg #[.int .i64 e, .int .i64 f, .int .i64 g, .int .i64 h]] w fun e1 w' => e1 = .returned (.tuple #[.agg #[.int .i64 X, .int .i64 Y, .int .i64 Z, .int .i64 V], .int .i64 C]) ∧ Below w.heap.size w w') :
    Calls Try.prog 6 #[.agg #[.int .i64 a, .int .i64 b, .int .i64 c, .int .i64 d], .agg #[.int .i64 e, .int .i64 f, .int .i64 g, .int .i64 h]] w fun e1 w' => e1 = .returned (.bool true) ∧ Below w.heap.size w w' := by
  have HS := Lib.hid hS
  have HI := Lib.hid hI
  clear hS hI
  have hs20 : w.heap.size < w.heap.size + 1 + 1 := (by omega); have hs30 : w.heap.size < w.heap.size + 1 + 1 + 1 := (by omega); have hs31 : w.heap.size + 1 < w.heap.size + 1 + 1 + 1 := (by omega); have hs40 : w.heap.size < w.heap.size + 1 + 1 + 1 + 1 := (by omega); have hs41 : w.heap.size + 1 < w.heap.size + 1 + 1 + 1 + 1 := (by omega); have hs42 : w.heap.size + 1 + 1 < w.heap.size + 1 + 1 + 1 + 1 := (by omega)
  go_enter Try.func6, Try.ntmps6
  go_upto_region 1 with fail
  obtain ⟨wB, hwB⟩ : ∃ wB, wB = (w.alloc (.cells #[.int .i64 a, .int .i64 b, .int .i64 c, .int .i64 d] 23)).alloc (.cells #[.int .i64 e, .int .i64 f, .int .i64 g, .int .i64 h] 23) := ⟨_, rfl⟩
  rw [← hwB]
  have hbs : wB.heap.size = w.heap.size + 1 + 1 := by rw [hwB]; simp
  have HBW : Hid (Below w.heap.size w wB) := by
    show Below w.heap.size w wB
    rw [hwB]; (repeat' (first | (with_reducible exact Below.refl _ _) | (with_reducible refine Below.alloc ?_ ?_ _) | (with_reducible refine Below.setCell ?_ ?_ _) | (with_reducible refine Below.drew ?_) | (with_reducible refine below_drewN ?_ _) | (with_reducible assumption) | (with_reducible refine below_after (by with_reducible assumption) ?_) | go_size))
  have HK : Hid (∀ W', Below wB.heap.size wB W' → W'.cell? ⟨w.heap.size, 0, none⟩ = some (.int .i64 a) ∧ W'.cell? ⟨w.heap.size, 1, none⟩ = some (.int .i64 b) ∧ W'.cell? ⟨w.heap.size, 2, none⟩ = some (.int .i64 c) ∧ W'.cell? ⟨w.heap.size, 3, none⟩ = some (.int .i64 d) ∧ W'.cell? ⟨w.heap.size + 1, 0, none⟩ = some (.int .i64 e) ∧ W'.cell? ⟨w.heap.size + 1, 1, none⟩ = some (.int .i64 f) ∧ W'.cell? ⟨w.heap.size + 1, 2, none⟩ = some (.int .i64 g) ∧ W'.cell? ⟨w.heap.size + 1, 3, none⟩ = some (.int .i64 h) ∧ w.heap.size + 1 < W'.heap.size) := by
    intro W' hB
    have hz := hB.size
    refine ⟨?_, ?_, ?_, ?_, ?_, ?_, ?_, ?_, by omega⟩
    · rw [(bcell hB).1 _ _ (by omega), hwB]; go_cell
    · rw [(bcell hB).1 _ _ (by omega), hwB]; go_cell
    · rw [(bcell hB).1 _ _ (by omega), hwB]; go_cell
    · rw [(bcell hB).1 _ _ (by omega), hwB]; go_cell
    · rw [(bcell hB).1 _ _ (by omega), hwB]; go_cell
    · rw [(bcell hB).1 _ _ (by omega), hwB]; go_cell
    · rw [(bcell hB).1 _ _ (by omega), hwB]; go_cell
    · rw [(bcell hB).1 _ _ (by omega), hwB]; go_cell
  have hbs2 : w.heap.size + 1 + 1 ≤ wB.heap.size := by omega
  have hbs3 : wB.heap.size ≤ w.heap.size + 1 + 1 := by omega
  clear hwB hbs
  go_cut [5, 6] (fun v7 v8 wx => ∃ p : Nat, v7 = .pointer (some ⟨p, 0, none⟩) ∧ v8 = .int .i64 C ∧ wx.cell? ⟨p, 0, none⟩ = some (.int .i64 X) ∧ wx.cell? ⟨p, 1, none⟩ = some (.int .i64 Y) ∧ wx.cell? ⟨p, 2, none⟩ = some (.int .i64 Z) ∧ wx.cell? ⟨p, 3, none⟩ = some (.int .i64 V) ∧ p < wx.heap.size ∧ wB.heap.size ≤ p ∧ Below wB.heap.size wB wx)
  case first =>
    go_region_held3 (fun W => W.cell? ⟨w.heap.size, 0, none⟩ = some (.int .i64 a) ∧ W.cell? ⟨w.heap.size, 1, none⟩ = some (.int .i64 b) ∧ W.cell? ⟨w.heap.size, 2, none⟩ = some (.int .i64 c) ∧ W.cell? ⟨w.heap.size, 3, none⟩ = some (.int .i64 d) ∧ W.cell? ⟨w.heap.size + 1, 0, none⟩ = some (.int .i64 e) ∧ W.cell? ⟨w.heap.size + 1, 1, none⟩ = some (.int .i64 f) ∧ W.cell? ⟨w.heap.size + 1, 2, none⟩ = some (.int .i64 g) ∧ W.cell? ⟨w.heap.size + 1, 3, none⟩ = some (.int .i64 h) ∧ w.heap.size + 1 < W.heap.size) ((refine (HK.out _ ?_); repeat' (first | (with_reducible refine Below.alloc ?_ ?_ _) | (with_reducible refine Below.setCell ?_ ?_ _) | (with_reducible refine Below.drew ?_) | (with_reducible exact Below.refl _ _) | (with_reducible refine below_after (by with_reducible assumption) ?_) | (first | omega | (simp only [World.size_alloc, World.size_drew, World.size_setCell]; omega))))) (first | (go_at_call 17; refine (toMatrix_any _ _ _ _ _).mono ?_; rintro e wn ⟨rfl, hb⟩; have hsz := hb.size; (try simp only [World.size_alloc, World.size_setCell, World.size_drew] at hsz); first | (revert hb; with_reducible change Below (World.heap (World.alloc _ _)).size (World.alloc _ _) _ → _; intro hb; have hnw := after_new4 hb; (try simp only [World.size_alloc, World.size_drew] at hnw)) | (revert hb; with_reducible change Below (World.heap (World.drew (World.alloc _ _))).size (World.drew (World.alloc _ _)) _ → _; intro hb; have hnw := after_newd4 hb; (try simp only [World.size_alloc, World.size_drew] at hnw)) | (revert hnw; with_reducible change (World.cell? _ _ = some _ ∧ World.cell? _ _ = some _ ∧ World.cell? _ _ = some _ ∧ World.cell? _ _ = some _ ∧ World.frozen? _ _ = false ∧ World.frozen? _ _ = false ∧ World.frozen? _ _ = false ∧ World.frozen? _ _ = false ∧ (_ : Nat) < _) → _; intro hnw; have hnw := after_old4 hb hnw) | skip) | (go_at_call 25; refine (HS.out _).mono ?_; rintro e wn ⟨rfl, hb⟩; have hsz := hb.size; (try simp only [World.size_alloc, World.size_setCell, World.size_drew] at hsz); first | (revert hb; with_reducible change Below (World.heap (World.alloc _ _)).size (World.alloc _ _) _ → _; intro hb; have hnw := after_new4 hb; (try simp only [World.size_alloc, World.size_drew] at hnw)) | (revert hb; with_reducible change Below (World.heap (World.drew (World.alloc _ _))).size (World.drew (World.alloc _ _)) _ → _; intro hb; have hnw := after_newd4 hb; (try simp only [World.size_alloc, World.size_drew] at hnw)) | (revert hnw; with_reducible change (World.cell? _ _ = some _ ∧ World.cell? _ _ = some _ ∧ World.cell? _ _ = some _ ∧ World.cell? _ _ = some _ ∧ World.frozen? _ _ = false ∧ World.frozen? _ _ = false ∧ World.frozen? _ _ = false ∧ World.frozen? _ _ = false ∧ (_ : Nat) < _) → _; intro hnw; have hnw := after_old4 hb hnw) | skip))
    all_goals
      go_wp2_with fail
      go_meet
      refine ⟨_, rfl, rfl, ?_, ?_, ?_, ?_, ?_, ?_, ?_⟩
      all_goals first | (go_cell; done) | (simp [*]; done) | (simp only [World.size_alloc, World.size_drew, World.size_setCell]; omega) | ((repeat' (first | (with_reducible exact Below.refl _ _) | (with_reducible refine Below.alloc ?_ ?_ _) | (with_reducible refine Below.setCell ?_ ?_ _) | (with_reducible refine Below.drew ?_) | (with_reducible refine below_drewN ?_ _) | (with_reducible assumption) | (with_reducible refine below_after (by with_reducible assumption) ?_) | go_size)); done)
  case rest =>
    obtain ⟨p, rfl, rfl, c0, c1, c2, c3, hp1, hp2, hBx⟩ := hcut
    have hxs := hBx.size
    have HK2 : Hid (∀ W', Below wc.heap.size wc W' → W'.cell? ⟨w.heap.size, 0, none⟩ = some (.int .i64 a) ∧ W'.cell? ⟨w.heap.size, 1, none⟩ = some (.int .i64 b) ∧ W'.cell? ⟨w.heap.size, 2, none⟩ = some (.int .i64 c) ∧ W'.cell? ⟨w.heap.size, 3, none⟩ = some (.int .i64 d) ∧ W'.cell? ⟨w.heap.size + 1, 0, none⟩ = some (.int .i64 e) ∧ W'.cell? ⟨w.heap.size + 1, 1, none⟩ = some (.int .i64 f) ∧ W'.cell? ⟨w.heap.size + 1, 2, none⟩ = some (.int .i64 g) ∧ W'.cell? ⟨w.heap.size + 1, 3, none⟩ = some (.int .i64 h) ∧ w.heap.size + 1 < W'.heap.size) := by
      intro W' hB
      have hz := hB.size
      obtain ⟨h1, h2, h3, h4, h6, h7, h8, h9, h5⟩ := HK.out W' (hBx.trans (hB.mono hxs))
      exact ⟨h1, h2, h3, h4, h6, h7, h8, h9, by omega⟩
    go_upto_region 2 with fail
    go_cut [7, 8] (fun v9 v10 wx => ∃ q : Nat, v9 = .pointer (some ⟨q, 0, none⟩) ∧ v10 = .int .i64 C ∧ wx.cell? ⟨q, 0, none⟩ = some (.int .i64 X) ∧ wx.cell? ⟨q, 1, none⟩ = some (.int .i64 Y) ∧ wx.cell? ⟨q, 2, none⟩ = some (.int .i64 Z) ∧ wx.cell? ⟨q, 3, none⟩ = some (.int .i64 V) ∧ Below wc.heap.size wc wx)
    case first =>
      go_region_held3 (fun W => W.cell? ⟨w.heap.size, 0, none⟩ = some (.int .i64 a) ∧ W.cell? ⟨w.heap.size, 1, none⟩ = some (.int .i64 b) ∧ W.cell? ⟨w.heap.size, 2, none⟩ = some (.int .i64 c) ∧ W.cell? ⟨w.heap.size, 3, none⟩ = some (.int .i64 d) ∧ W.cell? ⟨w.heap.size + 1, 0, none⟩ = some (.int .i64 e) ∧ W.cell? ⟨w.heap.size + 1, 1, none⟩ = some (.int .i64 f) ∧ W.cell? ⟨w.heap.size + 1, 2, none⟩ = some (.int .i64 g) ∧ W.cell? ⟨w.heap.size + 1, 3, none⟩ = some (.int .i64 h) ∧ w.heap.size + 1 < W.heap.size) ((refine (HK2.out _ ?_); repeat' (first | (with_reducible refine Below.alloc ?_ ?_ _) | (with_reducible refine Below.setCell ?_ ?_ _) | (with_reducible refine Below.drew ?_) | (with_reducible exact Below.refl _ _) | (with_reducible refine below_after (by with_reducible assumption) ?_) | (first | omega | (simp only [World.size_alloc, World.size_drew, World.size_setCell]; omega))))) (first | (go_at_call 17; refine (toMatrix_any _ _ _ _ _).mono ?_; rintro e wn ⟨rfl, hb⟩; have hsz := hb.size; (try simp only [World.size_alloc, World.size_setCell, World.size_drew] at hsz); first | (revert hb; with_reducible change Below (World.heap (World.alloc _ _)).size (World.alloc _ _) _ → _; intro hb; have hnw := after_new4 hb; (try simp only [World.size_alloc, World.size_drew] at hnw)) | (revert hb; with_reducible change Below (World.heap (World.drew (World.alloc _ _))).size (World.drew (World.alloc _ _)) _ → _; intro hb; have hnw := after_newd4 hb; (try simp only [World.size_alloc, World.size_drew] at hnw)) | (revert hnw; with_reducible change (World.cell? _ _ = some _ ∧ World.cell? _ _ = some _ ∧ World.cell? _ _ = some _ ∧ World.cell? _ _ = some _ ∧ World.frozen? _ _ = false ∧ World.frozen? _ _ = false ∧ World.frozen? _ _ = false ∧ World.frozen? _ _ = false ∧ (_ : Nat) < _) → _; intro hnw; have hnw := after_old4 hb hnw) | skip) | (go_at_call 26; refine (HI.out _).mono ?_; rintro e wn ⟨rfl, hb⟩; have hsz := hb.size; (try simp only [World.size_alloc, World.size_setCell, World.size_drew] at hsz); first | (revert hb; with_reducible change Below (World.heap (World.alloc _ _)).size (World.alloc _ _) _ → _; intro hb; have hnw := after_new4 hb; (try simp only [World.size_alloc, World.size_drew] at hnw)) | (revert hb; with_reducible change Below (World.heap (World.drew (World.alloc _ _))).size (World.drew (World.alloc _ _)) _ → _; intro hb; have hnw := after_newd4 hb; (try simp only [World.size_alloc, World.size_drew] at hnw)) | (revert hnw; with_reducible change (World.cell? _ _ = some _ ∧ World.cell? _ _ = some _ ∧ World.cell? _ _ = some _ ∧ World.cell? _ _ = some _ ∧ World.frozen? _ _ = false ∧ World.frozen? _ _ = false ∧ World.frozen? _ _ = false ∧ World.frozen? _ _ = false ∧ (_ : Nat) < _) → _; intro hnw; have hnw := after_old4 hb hnw) | skip))
      all_goals
        go_wp2_with fail
        go_meet
        refine ⟨_, rfl, rfl, ?_, ?_, ?_, ?_, ?_⟩
        all_goals first | (go_cell; done) | (simp [*]; done) | (simp only [World.size_alloc, World.size_drew, World.size_setCell]; omega) | ((repeat' (first | (with_reducible exact Below.refl _ _) | (with_reducible refine Below.alloc ?_ ?_ _) | (with_reducible refine Below.setCell ?_ ?_ _) | (with_reducible refine Below.drew ?_) | (with_reducible refine below_drewN ?_ _) | (with_reducible assumption) | (with_reducible refine below_after (by with_reducible assumption) ?_) | go_size)); done)
    case rest =>
      obtain ⟨q, rfl, rfl, d0, d1, d2, d3, hBy⟩ := hcut
      have e0 := (hBy.cell (p := ⟨p, 0, none⟩) hp1).trans c0
      have e1 := (hBy.cell (p := ⟨p, 1, none⟩) hp1).trans c1
      have e2 := (hBy.cell (p := ⟨p, 2, none⟩) hp1).trans c2
      have e3 := (hBy.cell (p := ⟨p, 3, none⟩) hp1).trans c3
      go_wp2_with (first | (go_at_call 27; refine (eqMatrix_same _ _ _ _ _).mono ?_; rintro e wn ⟨rfl, hb⟩; have hsz := hb.size; (try simp only [World.size_alloc, World.size_setCell, World.size_drew] at hsz); first | (revert hb; with_reducible change Below (World.heap (World.alloc _ _)).size (World.alloc _ _) _ → _; intro hb; have hnw := after_new4 hb; (try simp only [World.size_alloc, World.size_drew] at hnw)) | (revert hb; with_reducible change Below (World.heap (World.drew (World.alloc _ _))).size (World.drew (World.alloc _ _)) _ → _; intro hb; have hnw := after_newd4 hb; (try simp only [World.size_alloc, World.size_drew] at hnw)) | (revert hnw; with_reducible change (World.cell? _ _ = some _ ∧ World.cell? _ _ = some _ ∧ World.cell? _ _ = some _ ∧ World.cell? _ _ = some _ ∧ World.frozen? _ _ = false ∧ World.frozen? _ _ = false ∧ World.frozen? _ _ = false ∧ World.frozen? _ _ = false ∧ (_ : Nat) < _) → _; intro hnw; have hnw := after_old4 hb hnw) | skip))
      go_ret
      exact ⟨rfl, below_after hb (below_after hBy (below_after hBx HBW.out))⟩
theorem walkFnExactConjugateMatrix (a b c d e f g h : Int) (ka : (Lit.int .i64 a).wf = true) (kb : (Lit.int .i64 b).wf = true) (kc : (Lit.int .i64 c).wf = true) (kd : (Lit.int .i64 d).wf = true) (ke : (Lit.int .i64 e).wf = true) (kf : (Lit.int .i64 f).wf = true) (kg : (Lit.int .i64 g).wf = true) (kh : (Lit.int .i64 h).wf = true) (w : World) :
    Calls Try.prog 6 #[.agg #[.int .i64 a, .int .i64 b, .int .i64 c, .int .i64 d], .agg #[.int .i64 e, .int .i64 f, .int .i64 g, .int .i64 h]] w fun e1 w' => e1 = .returned (.bool true) ∧ Below w.heap.size w w' := by
  obtain ⟨o0, o1, o2, o3, x, hs, hi⟩ := Conj_both a b c d e f g h
  exact walkFnExactConjugateMatrix_any a b c d e f g h o0 o1 o2 o3 x w hs hi
end Go.Proofs.Ytohnmogejidpdaa
