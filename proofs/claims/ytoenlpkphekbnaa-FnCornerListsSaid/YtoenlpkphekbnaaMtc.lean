/-
  Contracts of chapter 1's MateOf in the program (own work).
-/
import Derived.Test.YtoenlpkphekbnaaMap
import Derived.Test.YtoenlpkphekbnaaEq
import Derived.Test.YtoenlpkphekbnaaMateQ
import Derived.Deep.DeepCutAuto
namespace Go.Proofs.Ytoenlpkphekbnaa
open Go.ChangeShapes Go.WideShapes Go.ChangeAt Go.RowKit
set_option linter.unusedVariables false
set_option maxRecDepth 100000
set_option linter.unusedSimpArgs false

theorem crd_tn0 {x : Int} (h : -1000000 ≤ x ∧ x ≤ 1000000) : Tn x := ⟨by omega, by omega⟩
theorem isUp_alloc {W : World} {b : Nat} {o : Obj} (h : IsUp W.heap[b]?) : IsUp (W.alloc o).heap[b]? := by
  have hlt : b < W.heap.size := by
    rcases h with h | h
    · exact (Array.getElem?_eq_some_iff.1 h).1
    · exact (Array.getElem?_eq_some_iff.1 h).1
  have e : (W.alloc o).heap[b]? = W.heap[b]? := by
    show (W.heap.push o)[b]? = _
    rw [Array.getElem?_push_lt hlt, Array.getElem?_eq_getElem hlt]
  rw [e]; exact h
theorem impl_MateOf_no (x0 y0 : Int) (w : World) (hn : isPt (x0, y0) = false) :
    Calls Try.prog 19 #[.agg #[.int .i64 x0, .int .i64 y0]] w fun e w' => e = .returned (.tuple #[.agg #[.int .i64 0, .int .i64 0], .int .i64 1]) ∧ Below w.heap.size w w' := by
  have hs20 : w.heap.size < w.heap.size + 1 + 1 := (by omega)
  go_enter Try.func19, Try.ntmps19
  go_wp2_with (first | (go_at_call 84; refine (isPoint_any _ _ _).mono ?_; rintro e wn ⟨rfl, hb⟩; first | (have h2 := after_call2 hb hcl hfr hlt (by ((repeat' (first | (with_reducible exact Below.refl _ _) | (with_reducible refine Below.alloc ?_ ?_ _) | (with_reducible refine Below.setCell ?_ ?_ _) | (with_reducible refine Below.drew ?_) | (with_reducible refine below_drewN ?_ _) | (with_reducible assumption) | (with_reducible refine below_after (by with_reducible assumption) ?_) | go_size)); done)); obtain ⟨hclx, hfrx, hltx, hsz⟩ := after_call hb; (try simp only [World.size_alloc, World.size_setCell, World.size_drew] at hclx hfrx hltx hsz); (try (have hszl := Nat.lt_of_succ_le hsz)); obtain ⟨hcl, hfr, hlt⟩ := h2) | (obtain ⟨hcl, hfr, hlt, hsz⟩ := after_call hb; (try simp only [World.size_alloc, World.size_setCell, World.size_drew] at hcl hfr hlt hsz))))
  refine bodyPost_ret (v := .tuple #[.agg #[.int .i64 0, .int .i64 0], .int .i64 1]) (by simp (maxDischargeDepth := 8) [results, Try.results19, go_sem, *]) rfl ?_
  exact ⟨rfl, by (repeat' (first | (with_reducible exact Below.refl _ _) | (with_reducible refine Below.alloc ?_ ?_ _) | (with_reducible refine Below.setCell ?_ ?_ _) | (with_reducible refine Below.drew ?_) | (with_reducible refine below_drewN ?_ _) | (with_reducible assumption) | (with_reducible refine below_after (by with_reducible assumption) ?_) | go_size))⟩
theorem impl_MateOf_state (x0 y0 : Int) (w : World) (k0 : isPt (x0, y0) = true) (hg : gcdI x0 y0 ≠ 1) :
    Calls Try.prog 19 #[.agg #[.int .i64 x0, .int .i64 y0]] w fun e w' => e = .returned (.tuple #[.agg #[.int .i64 0, .int .i64 0], .int .i64 5]) ∧ Below w.heap.size w w' := by
  have hgb : (gcdI x0 y0 == 1) = false := by simpa using hg
  have HX := Lib.hid (isPt_c1 k0)
  have HY := Lib.hid (isPt_c2 k0)
  have hs20 : w.heap.size < w.heap.size + 1 + 1 := (by omega)
  go_enter Try.func19, Try.ntmps19
  go_wp2_with (first | (go_at_call 84; refine (isPoint_any _ _ _).mono ?_; rintro e wn ⟨rfl, hb⟩; first | (have h2 := after_call2 hb hcl hfr hlt (by ((repeat' (first | (with_reducible exact Below.refl _ _) | (with_reducible refine Below.alloc ?_ ?_ _) | (with_reducible refine Below.setCell ?_ ?_ _) | (with_reducible refine Below.drew ?_) | (with_reducible refine below_drewN ?_ _) | (with_reducible assumption) | (with_reducible refine below_after (by with_reducible assumption) ?_) | go_size)); done)); obtain ⟨hclx, hfrx, hltx, hsz⟩ := after_call hb; (try simp only [World.size_alloc, World.size_setCell, World.size_drew] at hclx hfrx hltx hsz); (try (have hszl := Nat.lt_of_succ_le hsz)); obtain ⟨hcl, hfr, hlt⟩ := h2) | (obtain ⟨hcl, hfr, hlt, hsz⟩ := after_call hb; (try simp only [World.size_alloc, World.size_setCell, World.size_drew] at hcl hfr hlt hsz))) | (go_at_call 91; refine (greatestDivisor_any _ _ _ (crd_tn0 HX.out) (crd_tn0 HY.out)).mono ?_; rintro e wn ⟨rfl, hb⟩; first | (have h2 := after_call2 hb hcl hfr hlt (by ((repeat' (first | (with_reducible exact Below.refl _ _) | (with_reducible refine Below.alloc ?_ ?_ _) | (with_reducible refine Below.setCell ?_ ?_ _) | (with_reducible refine Below.drew ?_) | (with_reducible refine below_drewN ?_ _) | (with_reducible assumption) | (with_reducible refine below_after (by with_reducible assumption) ?_) | go_size)); done)); obtain ⟨hclx, hfrx, hltx, hsz⟩ := after_call hb; (try simp only [World.size_alloc, World.size_setCell, World.size_drew] at hclx hfrx hltx hsz); (try (have hszl := Nat.lt_of_succ_le hsz)); obtain ⟨hcl, hfr, hlt⟩ := h2) | (obtain ⟨hcl, hfr, hlt, hsz⟩ := after_call hb; (try simp only [World.size_alloc, World.size_setCell, World.size_drew] at hcl hfr hlt hsz))))
  refine bodyPost_ret (v := .tuple #[.agg #[.int .i64 0, .int .i64 0], .int .i64 5]) (by simp (maxDischargeDepth := 8) [results, Try.results19, go_sem, *]) rfl ?_
  exact ⟨rfl, by (repeat' (first | (with_reducible exact Below.refl _ _) | (with_reducible refine Below.alloc ?_ ?_ _) | (with_reducible refine Below.setCell ?_ ?_ _) | (with_reducible refine Below.drew ?_) | (with_reducible refine below_drewN ?_ _) | (with_reducible assumption) | (with_reducible refine below_after (by with_reducible assumption) ?_) | go_size))⟩
set_option maxHeartbeats 1000000 in
theorem impl_MateOf_up (x0 y0 : Int) (w : World) (k0 : isPt (x0, y0) = true) (hg : gcdI x0 y0 = 1) (hl0 : (x0 == 0 && y0 == 1) = true) :
    Calls Try.prog 19 #[.agg #[.int .i64 x0, .int .i64 y0]] w fun e w' => e = .returned (.tuple #[.agg #[.int .i64 (-1), .int .i64 0], .int .i64 0]) ∧ Below w.heap.size w w' := by
  have HX := Lib.hid (isPt_c1 k0)
  have HY := Lib.hid (isPt_c2 k0)
  have H0 := Lib.hid k0
  have HL : Hid (∀ (b : Nat) (W : World), IsUp W.heap[b]? → (Instr.lookup 95 (.map (some b)) (.agg #[.int .i64 x0, .int .i64 y0]) true).run Try.prog W = .ok (.tuple #[.agg #[.int .i64 (-1), .int .i64 0], .bool true]) W) := by
    intro b W hW
    rw [look_up b W x0 y0 hW]
    simp [hl0]
  have HL2 : Hid (∀ (b : Nat) (W : World), IsUp W.heap[b]? → (Instr.lookup 95 (.map (some b)) (.agg #[.int .i64 x0, .int .i64 y0]) true).run Try.prog (W.alloc (.cells #[.int .i64 0, .int .i64 0] 30)) = .ok (.tuple #[.agg #[.int .i64 (-1), .int .i64 0], .bool true]) (W.alloc (.cells #[.int .i64 0, .int .i64 0] 30))) := by
    intro b W hW
    exact HL.out b _ (isUp_alloc hW)
  clear hl0
  have hs20 : w.heap.size < w.heap.size + 1 + 1 := (by omega)
  go_enter Try.func19, Try.ntmps19
  go_upto_region 5 with (first | (go_at_call 84; refine (isPoint_any _ _ _).mono ?_; rintro e wn ⟨rfl, hb⟩; first | (have h2 := after_call2 hb hcl hfr hlt (by ((repeat' (first | (with_reducible exact Below.refl _ _) | (with_reducible refine Below.alloc ?_ ?_ _) | (with_reducible refine Below.setCell ?_ ?_ _) | (with_reducible refine Below.drew ?_) | (with_reducible refine below_drewN ?_ _) | (with_reducible assumption) | (with_reducible refine below_after (by with_reducible assumption) ?_) | go_size)); done)); obtain ⟨hclx, hfrx, hltx, hsz⟩ := after_call hb; (try simp only [World.size_alloc, World.size_setCell, World.size_drew] at hclx hfrx hltx hsz); (try (have hszl := Nat.lt_of_succ_le hsz)); obtain ⟨hcl, hfr, hlt⟩ := h2) | (obtain ⟨hcl, hfr, hlt, hsz⟩ := after_call hb; (try simp only [World.size_alloc, World.size_setCell, World.size_drew] at hcl hfr hlt hsz))) | (go_at_call 91; refine (greatestDivisor_any _ _ _ (crd_tn0 HX.out) (crd_tn0 HY.out)).mono ?_; rintro e wn ⟨rfl, hb⟩; first | (have h2 := after_call2 hb hcl hfr hlt (by ((repeat' (first | (with_reducible exact Below.refl _ _) | (with_reducible refine Below.alloc ?_ ?_ _) | (with_reducible refine Below.setCell ?_ ?_ _) | (with_reducible refine Below.drew ?_) | (with_reducible refine below_drewN ?_ _) | (with_reducible assumption) | (with_reducible refine below_after (by with_reducible assumption) ?_) | go_size)); done)); obtain ⟨hclx, hfrx, hltx, hsz⟩ := after_call hb; (try simp only [World.size_alloc, World.size_setCell, World.size_drew] at hclx hfrx hltx hsz); (try (have hszl := Nat.lt_of_succ_le hsz)); obtain ⟨hcl, hfr, hlt⟩ := h2) | (obtain ⟨hcl, hfr, hlt, hsz⟩ := after_call hb; (try simp only [World.size_alloc, World.size_setCell, World.size_drew] at hcl hfr hlt hsz))));
  have HBW : Hid (Below w.heap.size w wn) := by
    show Below w.heap.size w wn
    (repeat' (first | (with_reducible exact Below.refl _ _) | (with_reducible refine Below.alloc ?_ ?_ _) | (with_reducible refine Below.setCell ?_ ?_ _) | (with_reducible refine Below.drew ?_) | (with_reducible refine below_drewN ?_ _) | (with_reducible assumption) | (with_reducible refine below_after (by with_reducible assumption) ?_) | go_size))
  have HK : Hid (∀ W', Below wn.heap.size wn W' → W'.cell? ⟨w.heap.size, 0, none⟩ = some (.int .i64 x0) ∧ W'.cell? ⟨w.heap.size, 1, none⟩ = some (.int .i64 y0) ∧ W'.cell? ⟨w.heap.size + 1, 0, none⟩ = some (.int .i64 0) ∧ W'.cell? ⟨w.heap.size + 1, 1, none⟩ = some (.int .i64 0) ∧ W'.frozen? ⟨w.heap.size + 1, 0, none⟩ = false ∧ W'.frozen? ⟨w.heap.size + 1, 1, none⟩ = false ∧ w.heap.size + 1 < W'.heap.size) := by
    intro W' hB
    have hz := hB.size
    have hl := hlt (w.heap.size + 1) (by omega)
    refine ⟨?_, ?_, ?_, ?_, ?_, ?_, by omega⟩
    · rw [(bcell hB).1 _ _ (hlt _ (by omega)), hcl _ _ (by omega)]; go_cell
    · rw [(bcell hB).1 _ _ (hlt _ (by omega)), hcl _ _ (by omega)]; go_cell
    · rw [(bcell hB).1 _ _ (hlt _ (by omega)), hcl _ _ (by omega)]; go_cell
    · rw [(bcell hB).1 _ _ (hlt _ (by omega)), hcl _ _ (by omega)]; go_cell
    · rw [(bcell hB).2 _ _ (hlt _ (by omega)), hfr _ _ (by omega)]; simp
    · rw [(bcell hB).2 _ _ (hlt _ (by omega)), hfr _ _ (by omega)]; simp
  have hbs2 : w.heap.size + 1 + 1 ≤ wn.heap.size := hlt (w.heap.size + 1) (by omega)
  clear hb hclx hfrx hltx hcl hfr hlt
  go_cut [4, 5] (fun v4 v5 wx => ∃ p : Nat, v4 = .pointer (some ⟨p, 0, none⟩) ∧ v5 = .bool true ∧ wx.cell? ⟨p, 0, none⟩ = some (.int .i64 (-1)) ∧ wx.cell? ⟨p, 1, none⟩ = some (.int .i64 0) ∧ Below wn.heap.size wn wx)
  case first =>
    go_region_held3 (fun W => W.cell? ⟨w.heap.size, 0, none⟩ = some (.int .i64 x0) ∧ W.cell? ⟨w.heap.size, 1, none⟩ = some (.int .i64 y0) ∧ W.cell? ⟨w.heap.size + 1, 0, none⟩ = some (.int .i64 0) ∧ W.cell? ⟨w.heap.size + 1, 1, none⟩ = some (.int .i64 0) ∧ W.frozen? ⟨w.heap.size + 1, 0, none⟩ = false ∧ W.frozen? ⟨w.heap.size + 1, 1, none⟩ = false ∧ w.heap.size + 1 < W.heap.size) ((refine (HK.out _ ?_); repeat' (first | (with_reducible refine Below.alloc ?_ ?_ _) | (with_reducible refine Below.setCell ?_ ?_ _) | (with_reducible refine Below.drew ?_) | (with_reducible exact Below.refl _ _) | (with_reducible refine below_after (by with_reducible assumption) ?_) | (first | omega | (simp only [World.size_alloc, World.size_drew, World.size_setCell]; omega))))) (first | (go_at_call 92; refine (uprightMates_any _).mono ?_; rintro e wn ⟨⟨rfl, hup⟩, hb⟩; have hl1 := HL.out _ _ hup; have hl2 := HL2.out _ _ hup; clear hup; (try simp only [World.size_alloc, World.size_drew] at hl1 hl2); have hsz := hb.size; (try simp only [World.size_alloc, World.size_setCell, World.size_drew] at hsz); first | (revert hb; with_reducible change Below (World.heap (World.alloc _ _)).size (World.alloc _ _) _ → _; intro hb; have hnw := after_new hb; (try simp only [World.size_alloc, World.size_drew] at hnw)) | (revert hb; with_reducible change Below (World.heap (World.drew (World.alloc _ _))).size (World.drew (World.alloc _ _)) _ → _; intro hb; have hnw := after_newd hb; (try simp only [World.size_alloc, World.size_drew] at hnw)) | (revert hnw; with_reducible change (World.cell? _ _ = some _ ∧ World.cell? _ _ = some _ ∧ World.frozen? _ _ = false ∧ World.frozen? _ _ = false ∧ (_ : Nat) < _) → _; intro hnw; have hnw := after_old hb hnw) | skip))
    all_goals
      go_wp2_with fail
      go_meet
      refine ⟨_, rfl, rfl, ?_, ?_, ?_⟩
      all_goals first | (go_cell; done) | (simp [*]; done) | (simp only [World.size_alloc, World.size_drew, World.size_setCell]; omega) | ((repeat' (first | (with_reducible exact Below.refl _ _) | (with_reducible refine Below.alloc ?_ ?_ _) | (with_reducible refine Below.setCell ?_ ?_ _) | (with_reducible refine Below.drew ?_) | (with_reducible refine below_drewN ?_ _) | (with_reducible assumption) | (with_reducible refine below_after (by with_reducible assumption) ?_) | go_size)); done)
  case rest =>
    obtain ⟨p, rfl, rfl, c0, c1, hBx⟩ := hcut
    have hxs := hBx.size
    obtain ⟨k1, k2, k3, k4, k5, k6, k7⟩ := HK.out wc hBx
    have hBW := HBW.out
    go_wp2_with fail
    refine bodyPost_ret (v := .tuple #[.agg #[.int .i64 (-1), .int .i64 0], .int .i64 0]) (by simp (maxDischargeDepth := 8) [results, Try.results19, go_sem, *]) rfl ?_
    exact ⟨rfl, by (repeat' (first | (with_reducible exact Below.refl _ _) | (with_reducible refine Below.alloc ?_ ?_ _) | (with_reducible refine Below.setCell ?_ ?_ _) | (with_reducible refine Below.drew ?_) | (with_reducible refine below_drewN ?_ _) | (with_reducible assumption) | (with_reducible refine below_after (by with_reducible assumption) ?_) | go_size))⟩
set_option maxHeartbeats 1000000 in
theorem impl_MateOf_down (x0 y0 : Int) (w : World) (k0 : isPt (x0, y0) = true) (hg : gcdI x0 y0 = 1) (hl0 : (x0 == 0 && y0 == 1) = false) (hl1 : (x0 == 0 && y0 == -1) = true) :
    Calls Try.prog 19 #[.agg #[.int .i64 x0, .int .i64 y0]] w fun e w' => e = .returned (.tuple #[.agg #[.int .i64 1, .int .i64 0], .int .i64 0]) ∧ Below w.heap.size w w' := by
  have HX := Lib.hid (isPt_c1 k0)
  have HY := Lib.hid (isPt_c2 k0)
  have H0 := Lib.hid k0
  have HL : Hid (∀ (b : Nat) (W : World), IsUp W.heap[b]? → (Instr.lookup 95 (.map (some b)) (.agg #[.int .i64 x0, .int .i64 y0]) true).run Try.prog W = .ok (.tuple #[.agg #[.int .i64 1, .int .i64 0], .bool true]) W) := by
    intro b W hW
    rw [look_up b W x0 y0 hW]
    simp [hl0, hl1]
  have HL2 : Hid (∀ (b : Nat) (W : World), IsUp W.heap[b]? → (Instr.lookup 95 (.map (some b)) (.agg #[.int .i64 x0, .int .i64 y0]) true).run Try.prog (W.alloc (.cells #[.int .i64 0, .int .i64 0] 30)) = .ok (.tuple #[.agg #[.int .i64 1, .int .i64 0], .bool true]) (W.alloc (.cells #[.int .i64 0, .int .i64 0] 30))) := by
    intro b W hW
    exact HL.out b _ (isUp_alloc hW)
  clear hl0 hl1
  have hs20 : w.heap.size < w.heap.size + 1 + 1 := (by omega)
  go_enter Try.func19, Try.ntmps19
  go_upto_region 5 with (first | (go_at_call 84; refine (isPoint_any _ _ _).mono ?_; rintro e wn ⟨rfl, hb⟩; first | (have h2 := after_call2 hb hcl hfr hlt (by ((repeat' (first | (with_reducible exact Below.refl _ _) | (with_reducible refine Below.alloc ?_ ?_ _) | (with_reducible refine Below.setCell ?_ ?_ _) | (with_reducible refine Below.drew ?_) | (with_reducible refine below_drewN ?_ _) | (with_reducible assumption) | (with_reducible refine below_after (by with_reducible assumption) ?_) | go_size)); done)); obtain ⟨hclx, hfrx, hltx, hsz⟩ := after_call hb; (try simp only [World.size_alloc, World.size_setCell, World.size_drew] at hclx hfrx hltx hsz); (try (have hszl := Nat.lt_of_succ_le hsz)); obtain ⟨hcl, hfr, hlt⟩ := h2) | (obtain ⟨hcl, hfr, hlt, hsz⟩ := after_call hb; (try simp only [World.size_alloc, World.size_setCell, World.size_drew] at hcl hfr hlt hsz))) | (go_at_call 91; refine (greatestDivisor_any _ _ _ (crd_tn0 HX.out) (crd_tn0 HY.out)).mono ?_; rintro e wn ⟨rfl, hb⟩; first | (have h2 := after_call2 hb hcl hfr hlt (by ((repeat' (first | (with_reducible exact Below.refl _ _) | (with_reducible refine Below.alloc ?_ ?_ _) | (with_reducible refine Below.setCell ?_ ?_ _) | (with_reducible refine Below.drew ?_) | (with_reducible refine below_drewN ?_ _) | (with_reducible assumption) | (with_reducible refine below_after (by with_reducible assumption) ?_) | go_size)); done)); obtain ⟨hclx, hfrx, hltx, hsz⟩ := after_call hb; (try simp only [World.size_alloc, World.size_setCell, World.size_drew] at hclx hfrx hltx hsz); (try (have hszl := Nat.lt_of_succ_le hsz)); obtain ⟨hcl, hfr, hlt⟩ := h2) | (obtain ⟨hcl, hfr, hlt, hsz⟩ := after_call hb; (try simp only [World.size_alloc, World.size_setCell, World.size_drew] at hcl hfr hlt hsz))));
  have HBW : Hid (Below w.heap.size w wn) := by
    show Below w.heap.size w wn
    (repeat' (first | (with_reducible exact Below.refl _ _) | (with_reducible refine Below.alloc ?_ ?_ _) | (with_reducible refine Below.setCell ?_ ?_ _) | (with_reducible refine Below.drew ?_) | (with_reducible refine below_drewN ?_ _) | (with_reducible assumption) | (with_reducible refine below_after (by with_reducible assumption) ?_) | go_size))
  have HK : Hid (∀ W', Below wn.heap.size wn W' → W'.cell? ⟨w.heap.size, 0, none⟩ = some (.int .i64 x0) ∧ W'.cell? ⟨w.heap.size, 1, none⟩ = some (.int .i64 y0) ∧ W'.cell? ⟨w.heap.size + 1, 0, none⟩ = some (.int .i64 0) ∧ W'.cell? ⟨w.heap.size + 1, 1, none⟩ = some (.int .i64 0) ∧ W'.frozen? ⟨w.heap.size + 1, 0, none⟩ = false ∧ W'.frozen? ⟨w.heap.size + 1, 1, none⟩ = false ∧ w.heap.size + 1 < W'.heap.size) := by
    intro W' hB
    have hz := hB.size
    have hl := hlt (w.heap.size + 1) (by omega)
    refine ⟨?_, ?_, ?_, ?_, ?_, ?_, by omega⟩
    · rw [(bcell hB).1 _ _ (hlt _ (by omega)), hcl _ _ (by omega)]; go_cell
    · rw [(bcell hB).1 _ _ (hlt _ (by omega)), hcl _ _ (by omega)]; go_cell
    · rw [(bcell hB).1 _ _ (hlt _ (by omega)), hcl _ _ (by omega)]; go_cell
    · rw [(bcell hB).1 _ _ (hlt _ (by omega)), hcl _ _ (by omega)]; go_cell
    · rw [(bcell hB).2 _ _ (hlt _ (by omega)), hfr _ _ (by omega)]; simp
    · rw [(bcell hB).2 _ _ (hlt _ (by omega)), hfr _ _ (by omega)]; simp
  have hbs2 : w.heap.size + 1 + 1 ≤ wn.heap.size := hlt (w.heap.size + 1) (by omega)
  clear hb hclx hfrx hltx hcl hfr hlt
  go_cut [4, 5] (fun v4 v5 wx => ∃ p : Nat, v4 = .pointer (some ⟨p, 0, none⟩) ∧ v5 = .bool true ∧ wx.cell? ⟨p, 0, none⟩ = some (.int .i64 1) ∧ wx.cell? ⟨p, 1, none⟩ = some (.int .i64 0) ∧ Below wn.heap.size wn wx)
  case first =>
    go_region_held3 (fun W => W.cell? ⟨w.heap.size, 0, none⟩ = some (.int .i64 x0) ∧ W.cell? ⟨w.heap.size, 1, none⟩ = some (.int .i64 y0) ∧ W.cell? ⟨w.heap.size + 1, 0, none⟩ = some (.int .i64 0) ∧ W.cell? ⟨w.heap.size + 1, 1, none⟩ = some (.int .i64 0) ∧ W.frozen? ⟨w.heap.size + 1, 0, none⟩ = false ∧ W.frozen? ⟨w.heap.size + 1, 1, none⟩ = false ∧ w.heap.size + 1 < W.heap.size) ((refine (HK.out _ ?_); repeat' (first | (with_reducible refine Below.alloc ?_ ?_ _) | (with_reducible refine Below.setCell ?_ ?_ _) | (with_reducible refine Below.drew ?_) | (with_reducible exact Below.refl _ _) | (with_reducible refine below_after (by with_reducible assumption) ?_) | (first | omega | (simp only [World.size_alloc, World.size_drew, World.size_setCell]; omega))))) (first | (go_at_call 92; refine (uprightMates_any _).mono ?_; rintro e wn ⟨⟨rfl, hup⟩, hb⟩; have hl1 := HL.out _ _ hup; have hl2 := HL2.out _ _ hup; clear hup; (try simp only [World.size_alloc, World.size_drew] at hl1 hl2); have hsz := hb.size; (try simp only [World.size_alloc, World.size_setCell, World.size_drew] at hsz); first | (revert hb; with_reducible change Below (World.heap (World.alloc _ _)).size (World.alloc _ _) _ → _; intro hb; have hnw := after_new hb; (try simp only [World.size_alloc, World.size_drew] at hnw)) | (revert hb; with_reducible change Below (World.heap (World.drew (World.alloc _ _))).size (World.drew (World.alloc _ _)) _ → _; intro hb; have hnw := after_newd hb; (try simp only [World.size_alloc, World.size_drew] at hnw)) | (revert hnw; with_reducible change (World.cell? _ _ = some _ ∧ World.cell? _ _ = some _ ∧ World.frozen? _ _ = false ∧ World.frozen? _ _ = false ∧ (_ : Nat) < _) → _; intro hnw; have hnw := after_old hb hnw) | skip))
    all_goals
      go_wp2_with fail
      go_meet
      refine ⟨_, rfl, rfl, ?_, ?_, ?_⟩
      all_goals first | (go_cell; done) | (simp [*]; done) | (simp only [World.size_alloc, World.size_drew, World.size_setCell]; omega) | ((repeat' (first | (with_reducible exact Below.refl _ _) | (with_reducible refine Below.alloc ?_ ?_ _) | (with_reducible refine Below.setCell ?_ ?_ _) | (with_reducible refine Below.drew ?_) | (with_reducible refine below_drewN ?_ _) | (with_reducible assumption) | (with_reducible refine below_after (by with_reducible assumption) ?_) | go_size)); done)
  case rest =>
    obtain ⟨p, rfl, rfl, c0, c1, hBx⟩ := hcut
    have hxs := hBx.size
    obtain ⟨k1, k2, k3, k4, k5, k6, k7⟩ := HK.out wc hBx
    have hBW := HBW.out
    go_wp2_with fail
    refine bodyPost_ret (v := .tuple #[.agg #[.int .i64 1, .int .i64 0], .int .i64 0]) (by simp (maxDischargeDepth := 8) [results, Try.results19, go_sem, *]) rfl ?_
    exact ⟨rfl, by (repeat' (first | (with_reducible exact Below.refl _ _) | (with_reducible refine Below.alloc ?_ ?_ _) | (with_reducible refine Below.setCell ?_ ?_ _) | (with_reducible refine Below.drew ?_) | (with_reducible refine below_drewN ?_ _) | (with_reducible assumption) | (with_reducible refine below_after (by with_reducible assumption) ?_) | go_size))⟩
set_option maxRecDepth 100000 in
set_option maxHeartbeats 4000000 in
theorem impl_MateOf_nz (x0 y0 X n : Int) (w : World) (k0 : isPt (x0, y0) = true) (hg : gcdI x0 y0 = 1) (hx0 : ¬ x0 = 0) (hn : absI x0 = n) (hX : MateX n y0 X) :
    Calls Try.prog 19 #[.agg #[.int .i64 x0, .int .i64 y0]] w fun e w' => e = .returned (.tuple #[.agg #[.int .i64 X, .int .i64 (mateY x0 y0 X)], .int .i64 0]) ∧ Below w.heap.size w w' := by
  obtain ⟨x1, x2⟩ := isPt_c1 k0
  obtain ⟨y1, y2⟩ := isPt_c2 k0
  have hn1 : 1 ≤ n := by unfold absI at hn; omega
  have hn2 : n ≤ 1000000 := by unfold absI at hn; omega
  have HG : Hid (Int.gcd n y0 = 1) := by
    show Int.gcd n y0 = 1
    rw [← hn]
    unfold gcdI at hg
    unfold absI
    have : Int.gcd x0 y0 = 1 := by omega
    simpa [Int.gcd] using this
  have HN := Lib.hid hn
  obtain ⟨ym, ⟨yc, yd, hym⟩, hinv⟩ := inverseModulo_det y0 n X hn1 hn2 y1 y2 HG.out hX
  have HYm := Lib.hid hym
  have HINV := Lib.hid hinv
  clear hym hinv
  have hl0 : (x0 == 0 && y0 == 1) = false := by simp [hx0]
  have hl1 : (x0 == 0 && y0 == -1) = false := by simp [hx0]
  obtain ⟨hX0, hX1, _⟩ := hX
  obtain ⟨p1, p2⟩ := mul_bd (a := y0) (b := X) (A := 1000000) (B := 1000000) y1 y2 (by omega) (by omega)
  obtain ⟨tb1, tb2⟩ := tdiv_bd (a := 1 + y0 * X) (b := x0) 1000000000001 (by omega) (by omega)
  have HYY := Lib.hid (show (1 + y0 * X).tdiv x0 = mateY x0 y0 X from rfl)
  rw [← HYY.out]
  clear hn HYY
  have HX := Lib.hid (isPt_c1 k0)
  have HY := Lib.hid (isPt_c2 k0)
  have H0 := Lib.hid k0
  have HL : Hid (∀ (b : Nat) (W : World), IsUp W.heap[b]? → (Instr.lookup 95 (.map (some b)) (.agg #[.int .i64 x0, .int .i64 y0]) true).run Try.prog W = .ok (.tuple #[.agg #[.int .i64 0, .int .i64 0], .bool false]) W) := by
    intro b W hW
    rw [look_up b W x0 y0 hW]
    simp [hl0, hl1]
  have HL2 : Hid (∀ (b : Nat) (W : World), IsUp W.heap[b]? → (Instr.lookup 95 (.map (some b)) (.agg #[.int .i64 x0, .int .i64 y0]) true).run Try.prog (W.alloc (.cells #[.int .i64 0, .int .i64 0] 30)) = .ok (.tuple #[.agg #[.int .i64 0, .int .i64 0], .bool false]) (W.alloc (.cells #[.int .i64 0, .int .i64 0] 30))) := by
    intro b W hW
    exact HL.out b _ (isUp_alloc hW)
  clear hl0 hl1
  have hs20 : w.heap.size < w.heap.size + 1 + 1 := (by omega)
  go_enter Try.func19, Try.ntmps19
  go_upto_region 5 with (first | (go_at_call 84; refine (isPoint_any _ _ _).mono ?_; rintro e wn ⟨rfl, hb⟩; first | (have h2 := after_call2 hb hcl hfr hlt (by ((repeat' (first | (with_reducible exact Below.refl _ _) | (with_reducible refine Below.alloc ?_ ?_ _) | (with_reducible refine Below.setCell ?_ ?_ _) | (with_reducible refine Below.drew ?_) | (with_reducible refine below_drewN ?_ _) | (with_reducible assumption) | (with_reducible refine below_after (by with_reducible assumption) ?_) | go_size)); done)); obtain ⟨hclx, hfrx, hltx, hsz⟩ := after_call hb; (try simp only [World.size_alloc, World.size_setCell, World.size_drew] at hclx hfrx hltx hsz); (try (have hszl := Nat.lt_of_succ_le hsz)); obtain ⟨hcl, hfr, hlt⟩ := h2) | (obtain ⟨hcl, hfr, hlt, hsz⟩ := after_call hb; (try simp only [World.size_alloc, World.size_setCell, World.size_drew] at hcl hfr hlt hsz))) | (go_at_call 91; refine (greatestDivisor_any _ _ _ (crd_tn0 HX.out) (crd_tn0 HY.out)).mono ?_; rintro e wn ⟨rfl, hb⟩; first | (have h2 := after_call2 hb hcl hfr hlt (by ((repeat' (first | (with_reducible exact Below.refl _ _) | (with_reducible refine Below.alloc ?_ ?_ _) | (with_reducible refine Below.setCell ?_ ?_ _) | (with_reducible refine Below.drew ?_) | (with_reducible refine below_drewN ?_ _) | (with_reducible assumption) | (with_reducible refine below_after (by with_reducible assumption) ?_) | go_size)); done)); obtain ⟨hclx, hfrx, hltx, hsz⟩ := after_call hb; (try simp only [World.size_alloc, World.size_setCell, World.size_drew] at hclx hfrx hltx hsz); (try (have hszl := Nat.lt_of_succ_le hsz)); obtain ⟨hcl, hfr, hlt⟩ := h2) | (obtain ⟨hcl, hfr, hlt, hsz⟩ := after_call hb; (try simp only [World.size_alloc, World.size_setCell, World.size_drew] at hcl hfr hlt hsz))));
  have HBW : Hid (Below w.heap.size w wn) := by
    show Below w.heap.size w wn
    (repeat' (first | (with_reducible exact Below.refl _ _) | (with_reducible refine Below.alloc ?_ ?_ _) | (with_reducible refine Below.setCell ?_ ?_ _) | (with_reducible refine Below.drew ?_) | (with_reducible refine below_drewN ?_ _) | (with_reducible assumption) | (with_reducible refine below_after (by with_reducible assumption) ?_) | go_size))
  have HK : Hid (∀ W', Below wn.heap.size wn W' → W'.cell? ⟨w.heap.size, 0, none⟩ = some (.int .i64 x0) ∧ W'.cell? ⟨w.heap.size, 1, none⟩ = some (.int .i64 y0) ∧ W'.cell? ⟨w.heap.size + 1, 0, none⟩ = some (.int .i64 0) ∧ W'.cell? ⟨w.heap.size + 1, 1, none⟩ = some (.int .i64 0) ∧ W'.frozen? ⟨w.heap.size + 1, 0, none⟩ = false ∧ W'.frozen? ⟨w.heap.size + 1, 1, none⟩ = false ∧ w.heap.size + 1 < W'.heap.size) := by
    intro W' hB
    have hz := hB.size
    have hl := hlt (w.heap.size + 1) (by omega)
    refine ⟨?_, ?_, ?_, ?_, ?_, ?_, by omega⟩
    · rw [(bcell hB).1 _ _ (hlt _ (by omega)), hcl _ _ (by omega)]; go_cell
    · rw [(bcell hB).1 _ _ (hlt _ (by omega)), hcl _ _ (by omega)]; go_cell
    · rw [(bcell hB).1 _ _ (hlt _ (by omega)), hcl _ _ (by omega)]; go_cell
    · rw [(bcell hB).1 _ _ (hlt _ (by omega)), hcl _ _ (by omega)]; go_cell
    · rw [(bcell hB).2 _ _ (hlt _ (by omega)), hfr _ _ (by omega)]; simp
    · rw [(bcell hB).2 _ _ (hlt _ (by omega)), hfr _ _ (by omega)]; simp
  have hbs2 : w.heap.size + 1 + 1 ≤ wn.heap.size := hlt (w.heap.size + 1) (by omega)
  clear hb hclx hfrx hltx hcl hfr hlt
  go_cut [4, 5] (fun v4 v5 wx => ∃ p : Nat, v4 = .pointer (some ⟨p, 0, none⟩) ∧ v5 = .bool false ∧ wx.cell? ⟨p, 0, none⟩ = some (.int .i64 0) ∧ wx.cell? ⟨p, 1, none⟩ = some (.int .i64 0) ∧ Below wn.heap.size wn wx)
  case first =>
    go_region_held3 (fun W => W.cell? ⟨w.heap.size, 0, none⟩ = some (.int .i64 x0) ∧ W.cell? ⟨w.heap.size, 1, none⟩ = some (.int .i64 y0) ∧ W.cell? ⟨w.heap.size + 1, 0, none⟩ = some (.int .i64 0) ∧ W.cell? ⟨w.heap.size + 1, 1, none⟩ = some (.int .i64 0) ∧ W.frozen? ⟨w.heap.size + 1, 0, none⟩ = false ∧ W.frozen? ⟨w.heap.size + 1, 1, none⟩ = false ∧ w.heap.size + 1 < W.heap.size) ((refine (HK.out _ ?_); repeat' (first | (with_reducible refine Below.alloc ?_ ?_ _) | (with_reducible refine Below.setCell ?_ ?_ _) | (with_reducible refine Below.drew ?_) | (with_reducible exact Below.refl _ _) | (with_reducible refine below_after (by with_reducible assumption) ?_) | (first | omega | (simp only [World.size_alloc, World.size_drew, World.size_setCell]; omega))))) (first | (go_at_call 92; refine (uprightMates_any _).mono ?_; rintro e wn ⟨⟨rfl, hup⟩, hb⟩; have hl1 := HL.out _ _ hup; have hl2 := HL2.out _ _ hup; clear hup; (try simp only [World.size_alloc, World.size_drew] at hl1 hl2); have hsz := hb.size; (try simp only [World.size_alloc, World.size_setCell, World.size_drew] at hsz); first | (revert hb; with_reducible change Below (World.heap (World.alloc _ _)).size (World.alloc _ _) _ → _; intro hb; have hnw := after_new hb; (try simp only [World.size_alloc, World.size_drew] at hnw)) | (revert hb; with_reducible change Below (World.heap (World.drew (World.alloc _ _))).size (World.drew (World.alloc _ _)) _ → _; intro hb; have hnw := after_newd hb; (try simp only [World.size_alloc, World.size_drew] at hnw)) | (revert hnw; with_reducible change (World.cell? _ _ = some _ ∧ World.cell? _ _ = some _ ∧ World.frozen? _ _ = false ∧ World.frozen? _ _ = false ∧ (_ : Nat) < _) → _; intro hnw; have hnw := after_old hb hnw) | skip))
    all_goals
      go_wp2_with fail
      go_meet
      refine ⟨_, rfl, rfl, ?_, ?_, ?_⟩
      all_goals first | (go_cell; done) | (simp [*]; done) | (simp only [World.size_alloc, World.size_drew, World.size_setCell]; omega) | ((repeat' (first | (with_reducible exact Below.refl _ _) | (with_reducible refine Below.alloc ?_ ?_ _) | (with_reducible refine Below.setCell ?_ ?_ _) | (with_reducible refine Below.drew ?_) | (with_reducible refine below_drewN ?_ _) | (with_reducible assumption) | (with_reducible refine below_after (by with_reducible assumption) ?_) | go_size)); done)
  case rest =>
    obtain ⟨p, rfl, rfl, c0, c1, hBx⟩ := hcut
    have hxs := hBx.size
    obtain ⟨k1, k2, k3, k4, k5, k6, k7⟩ := HK.out wc hBx
    have hBW := HBW.out
    have HBC : Hid (Below w.heap.size w wc) := below_after hBx hBW
    have hcs : w.heap.size + 1 + 1 ≤ wc.heap.size := by omega
    clear hBx hBW
    go_wp2_with fail
    go_quiet (first | (go_at_call 74; refine Calls.quiet_of_same (absolute_q x0 n _ (crd_tn0 HX.out) HN)) | (go_at_call 94; refine Calls.quiet_of (HINV.out _)) | (go_at_call 93; refine Calls.quiet_of (divideDown_qX _ n X _ hn1 hn2 (by omega) (by omega) HYm)))
    go_wp2_with fail
    have hBC := HBC.out
    refine bodyPost_ret (v := .tuple #[.agg #[.int .i64 X, .int .i64 ((1 + y0 * X).tdiv x0)], .int .i64 0]) (by simp (maxDischargeDepth := 8) [results, Try.results19, go_sem, *]) rfl ?_
    exact ⟨rfl, by (repeat' (first | (with_reducible exact Below.refl _ _) | (with_reducible refine Below.alloc ?_ ?_ _) | (with_reducible refine Below.setCell ?_ ?_ _) | (with_reducible refine Below.drew ?_) | (with_reducible refine below_drewN ?_ _) | (with_reducible assumption) | (with_reducible refine below_after (by with_reducible assumption) ?_) | go_size))⟩
end Go.Proofs.Ytoenlpkphekbnaa
