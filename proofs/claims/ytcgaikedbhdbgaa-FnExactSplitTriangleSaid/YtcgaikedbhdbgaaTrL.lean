/-
  Lists of triangles (own work).
-/
import Derived.Test.YtcgaikedbhdbgaaTrO
import Derived.Test.YtcgaikedbhdbgaaPtM
namespace Go.Proofs.Ytcgaikedbhdbgaa
open Go.ChangeShapes Go.WideShapes Go.ChangeAt Go.RowKit
set_option linter.unusedVariables false
set_option maxRecDepth 100000
set_option linter.unusedSimpArgs false
set_option maxRecDepth 100000

/-- A list of n records that lies in blocks from B on, its numbers one behind the other. -/
def OwnTr (B : Nat) (w : World) (v : Value) (n : Nat) (zs : List Int) : Prop := w.ownsRow B 27 6 v n (zs.map (Value.int .i64))
theorem OwnTr.below {B : Nat} {w w' : World} {v : Value} {n : Nat} {zs : List Int} (h : OwnTr B w v n zs) (hb : Below w.heap.size w w') : OwnTr B w' v n zs := own_below h hb
theorem OwnTr.len {B : Nat} {w : World} {v : Value} {n : Nat} {zs : List Int} (h : OwnTr B w v n zs) : zs.length = n * 6 := by
  have := h.1
  rwa [List.length_map] at this
theorem viewOwnTr {B : Nat} {w : World} {v : Value} {n : Nat} {zs : List Int} (h : OwnTr B w v n zs) :
    ∃ (a : Option Addr) (cap : Nat), v = .slice a n cap ∧ (0 < n → ∃ g, a = some ⟨g, 0, none⟩ ∧ B ≤ g ∧ g < w.heap.size ∧ (∀ j, j < n * 6 → w.cell? ⟨g, j, none⟩ = some (.int .i64 (zs.getD j 0))) ∧ (∀ j, w.frozen? ⟨g, j, none⟩ = false)) := by
  have h0 := h
  have hl := h.len
  rcases h.2 with ⟨rfl, hn⟩ | ⟨g, cap, cur, rfl, hb, hg, _⟩
  · exact ⟨none, 0, by rw [hn], fun hp => by omega⟩
  · refine ⟨some ⟨g, 0, none⟩, cap, rfl, fun _ => ⟨g, rfl, hb, (Array.getElem?_eq_some_iff.1 hg).1, fun j hj => ?_, fun j => World.ownsRow.frozenAt h0 j⟩⟩
    have := World.ownsRow.cellAt h0 j (by omega)
    have hj2 : j < zs.length := by omega
    rw [this, List.getElem?_map, List.getElem?_eq_getElem hj2]
    simp [List.getD, hj2]
set_option maxHeartbeats 1600000 in
theorem eqTriangleS_same (B1 B2 : Nat) (v1 v2 : Value) (n : Nat) (zs : List Int) (w : World) (h1 : OwnTr B1 w v1 n zs) (h2 : OwnTr B2 w v2 n zs) (hx : n ≤ 140737488351232) :
    Calls Try.prog 59 #[v1, v2] w fun e w' => e = .returned (.bool true) ∧ Below w.heap.size w w' := by
  obtain ⟨a1, c1, rfl, f1⟩ := viewOwnTr h1
  obtain ⟨a2, c2, rfl, f2⟩ := viewOwnTr h2
  clear h1 h2
  by_cases hz : n = 0
  · subst hz
    clear f1 f2
    go_enter Try.func59, Try.ntmps59
    go_wp2
    refine wp_loop_rounds 1 ?_
    rw [rounds_succ]
    go_wp2
    go_ret
    exact ⟨rfl, by (repeat' (first | (with_reducible exact Below.refl _ _) | (with_reducible refine Below.alloc ?_ ?_ _) | (with_reducible refine Below.setCell ?_ ?_ _) | (with_reducible refine Below.drew ?_) | (with_reducible refine below_drewN ?_ _) | (with_reducible assumption) | (with_reducible refine below_after (by with_reducible assumption) ?_) | go_size))⟩
  · obtain ⟨g1, rfl, _, hg1, hc1, _⟩ := f1 (by omega)
    obtain ⟨g2, rfl, _, hg2, hc2, _⟩ := f2 (by omega)
    have HC1 := Lib.hid hc1
    have HC2 := Lib.hid hc2
    clear f1 f2 hc1 hc2 hz
    go_enter Try.func59, Try.ntmps59
    go_wp2
    go_loopw [5] (fun i wr => ∃ k : Nat, k ≤ n ∧ i = .int .i64 k ∧ Below w.heap.size w wr) (fun i _ => n - (intOf i).toNat)
    case atStart => exact ⟨0, by omega, rfl, Below.refl _ _⟩
    case round =>
      obtain ⟨k, hk, rfl, hbel⟩ := hrel
      by_cases hlt : k < n
      · skip
        have e0 := (hbel.cell (p := ⟨g1, k * 6, none⟩) hg1).trans (HC1.out (k * 6) (by omega))
        have f0 := (hbel.cell (p := ⟨g2, k * 6, none⟩) hg2).trans (HC2.out (k * 6) (by omega))
        obtain ⟨z0, hz0⟩ : ∃ x, zs.getD (k * 6) 0 = x := ⟨_, rfl⟩
        rw [hz0] at e0 f0
        have e1 := (hbel.cell (p := ⟨g1, k * 6 + 1, none⟩) hg1).trans (HC1.out (k * 6 + 1) (by omega))
        have f1 := (hbel.cell (p := ⟨g2, k * 6 + 1, none⟩) hg2).trans (HC2.out (k * 6 + 1) (by omega))
        obtain ⟨z1, hz1⟩ : ∃ x, zs.getD (k * 6 + 1) 0 = x := ⟨_, rfl⟩
        rw [hz1] at e1 f1
        have e2 := (hbel.cell (p := ⟨g1, k * 6 + 2, none⟩) hg1).trans (HC1.out (k * 6 + 2) (by omega))
        have f2 := (hbel.cell (p := ⟨g2, k * 6 + 2, none⟩) hg2).trans (HC2.out (k * 6 + 2) (by omega))
        obtain ⟨z2, hz2⟩ : ∃ x, zs.getD (k * 6 + 2) 0 = x := ⟨_, rfl⟩
        rw [hz2] at e2 f2
        have e3 := (hbel.cell (p := ⟨g1, k * 6 + 3, none⟩) hg1).trans (HC1.out (k * 6 + 3) (by omega))
        have f3 := (hbel.cell (p := ⟨g2, k * 6 + 3, none⟩) hg2).trans (HC2.out (k * 6 + 3) (by omega))
        obtain ⟨z3, hz3⟩ : ∃ x, zs.getD (k * 6 + 3) 0 = x := ⟨_, rfl⟩
        rw [hz3] at e3 f3
        have e4 := (hbel.cell (p := ⟨g1, k * 6 + 4, none⟩) hg1).trans (HC1.out (k * 6 + 4) (by omega))
        have f4 := (hbel.cell (p := ⟨g2, k * 6 + 4, none⟩) hg2).trans (HC2.out (k * 6 + 4) (by omega))
        obtain ⟨z4, hz4⟩ : ∃ x, zs.getD (k * 6 + 4) 0 = x := ⟨_, rfl⟩
        rw [hz4] at e4 f4
        have e5 := (hbel.cell (p := ⟨g1, k * 6 + 5, none⟩) hg1).trans (HC1.out (k * 6 + 5) (by omega))
        have f5 := (hbel.cell (p := ⟨g2, k * 6 + 5, none⟩) hg2).trans (HC2.out (k * 6 + 5) (by omega))
        obtain ⟨z5, hz5⟩ : ∃ x, zs.getD (k * 6 + 5) 0 = x := ⟨_, rfl⟩
        rw [hz5] at e5 f5
        clear hz0 hz1 hz2 hz3 hz4 hz5
        have i0 : (0 : Int) ≤ (k : Int) := by omega
        have i1 : (k : Int) < (n : Int) := by omega
        go_wp2
        go_region_with (go_at_call 47; refine (eqTriangle_same _ _ _ _ _ _ _).mono ?_; rintro e wn ⟨rfl, hbn⟩)
        all_goals
          go_wp2
          go_roundw
          case rel => exact ⟨k + 1, by omega, by go_num, below_after hbn (by (repeat' (first | (with_reducible exact Below.refl _ _) | (with_reducible refine Below.alloc ?_ ?_ _) | (with_reducible refine Below.setCell ?_ ?_ _) | (with_reducible refine Below.drew ?_) | (with_reducible refine below_drewN ?_ _) | (with_reducible assumption) | (with_reducible refine below_after (by with_reducible assumption) ?_) | go_size)))⟩
          case measure => simp [intOf]; omega
      · have hge : n ≤ k := by omega
        clear hlt
        go_wp2
        go_ret
        exact ⟨rfl, by (repeat' (first | (with_reducible exact Below.refl _ _) | (with_reducible refine Below.alloc ?_ ?_ _) | (with_reducible refine Below.setCell ?_ ?_ _) | (with_reducible refine Below.drew ?_) | (with_reducible refine below_drewN ?_ _) | (with_reducible assumption) | (with_reducible refine below_after (by with_reducible assumption) ?_) | go_size))⟩
theorem markTriangleS_any (B : Nat) (v : Value) (n : Nat) (zs : List Int) (k0 : Int) (w : World) (h : OwnTr B w v n zs) (hx : n ≤ 140737488351232) :
    Calls Try.prog 60 #[v, .int .i64 k0] w fun e w' => e = .returned (.int .i64 k0) ∧ w = w' := by
  obtain ⟨a, cap, rfl, _⟩ := viewOwnTr h
  clear h
  go_enter Try.func60, Try.ntmps60
  go_wp2
  go_loop [5] (fun i => ∃ k : Nat, k ≤ n ∧ i = .int .i64 k) (fun i => n - (intOf i).toNat)
  case atStart => exact ⟨0, by omega, rfl⟩
  case round =>
    obtain ⟨k, hk3, rfl⟩ := hrel
    by_cases hlt : k < n
    · have i0 : (0 : Int) ≤ (k : Int) := by omega
      have i1 : (k : Int) < (n : Int) := by omega
      go_wp2
      go_round
      case rel => exact ⟨k + 1, by omega, by go_num⟩
      case measure => simp [intOf]; omega
    · have hge : n ≤ k := by omega
      clear hlt
      go_wp2
      go_ret
      exact ⟨rfl, rfl⟩
theorem heldTriangleS_any (B : Nat) (v : Value) (n : Nat) (zs : List Int) (k0 : Int) (w : World) (h : OwnTr B w v n zs) (hx : n ≤ 140737488351232) :
    Calls Try.prog 61 #[v, .int .i64 k0] w fun e w' => e = .returned (.int .i64 k0) ∧ w = w' := by
  obtain ⟨a, cap, rfl, _⟩ := viewOwnTr h
  clear h
  go_enter Try.func61, Try.ntmps61
  go_wp2
  go_loop [5] (fun i => ∃ k : Nat, k ≤ n ∧ i = .int .i64 k) (fun i => n - (intOf i).toNat)
  case atStart => exact ⟨0, by omega, rfl⟩
  case round =>
    obtain ⟨k, hk3, rfl⟩ := hrel
    by_cases hlt : k < n
    · have i0 : (0 : Int) ≤ (k : Int) := by omega
      have i1 : (k : Int) < (n : Int) := by omega
      go_wp2
      go_round
      case rel => exact ⟨k + 1, by omega, by go_num⟩
      case measure => simp [intOf]; omega
    · have hge : n ≤ k := by omega
      clear hlt
      go_wp2
      go_ret
      exact ⟨rfl, rfl⟩
end Go.Proofs.Ytcgaikedbhdbgaa
