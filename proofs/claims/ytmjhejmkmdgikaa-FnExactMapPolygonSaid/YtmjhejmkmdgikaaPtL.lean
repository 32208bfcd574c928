/-
  Lists of points that a call makes, cell by cell, and the laws' helpers on them (own work).
-/
import Derived.Test.YtmjhejmkmdgikaaMark
import Derived.Test.YtmjhejmkmdgikaaEq
import Derived.Deep.RegionWith
namespace Go.Proofs.Ytmjhejmkmdgikaa
open Go.ChangeShapes Go.WideShapes Go.ChangeAt Go.RowKit
set_option linter.unusedVariables false
set_option maxRecDepth 100000
set_option linter.unusedSimpArgs false

/-- A list of n points that lies in blocks from B on, its numbers one behind the other. -/
def OwnF (B : Nat) (w : World) (v : Value) (n : Nat) (zs : List Int) : Prop := w.ownsRow B 32 2 v n (zs.map (Value.int .i64))
theorem OwnF.below {B : Nat} {w w' : World} {v : Value} {n : Nat} {zs : List Int} (h : OwnF B w v n zs) (hb : Below w.heap.size w w') : OwnF B w' v n zs := own_below h hb
theorem OwnF.len {B : Nat} {w : World} {v : Value} {n : Nat} {zs : List Int} (h : OwnF B w v n zs) : zs.length = n * 2 := by
  have := h.1
  rwa [List.length_map] at this
def flat (ps : List (Int × Int)) : List Int := ps.flatMap fun p => [p.1, p.2]
theorem flat_len (ps : List (Int × Int)) : (flat ps).length = ps.length * 2 := by
  induction ps with
  | nil => rfl
  | cons p l ih =>
    have : flat (p :: l) = p.1 :: p.2 :: flat l := rfl
    rw [this, List.length_cons, List.length_cons, List.length_cons, ih]; omega
theorem flat_append (a b : List (Int × Int)) : flat (a ++ b) = flat a ++ flat b := by simp [flat]
/-- A call returned such a list and a code, and left all that was there. -/
def RetPC (w : World) (ps : List (Int × Int)) (c : Int) (e : Ending) (w' : World) : Prop := ∃ v, e = .returned (.tuple #[v, .int .i64 c]) ∧ OwnF w.heap.size w' v ps.length (flat ps) ∧ Below w.heap.size w w'
theorem info_pt : (Try.prog.info? 32).map (fun i => (i.zero, i.size, i.bytes)) = some (some (.agg #[.int .i64 0, .int .i64 0]), 2, 16) := by kernel_rfl
theorem own_viewF {B : Nat} {w : World} {v : Value} {n : Nat} {zs : List Int} (h : OwnF B w v n zs) :
    ∃ (a : Option Addr) (cap : Nat), v = .slice a n cap ∧ (0 < n → ∃ g, a = some ⟨g, 0, none⟩ ∧ B ≤ g ∧ g < w.heap.size ∧ (∀ j, j < n * 2 → w.cell? ⟨g, j, none⟩ = some (.int .i64 (zs.getD j 0))) ∧ (∀ j, w.frozen? ⟨g, j, none⟩ = false)) := by
  have h0 := h
  have hl := h.len
  rcases h.2 with ⟨rfl, hn⟩ | ⟨g, cap, cur, rfl, hb, hg, _⟩
  · exact ⟨none, 0, by rw [hn], fun hp => by omega⟩
  · refine ⟨some ⟨g, 0, none⟩, cap, rfl, fun _ => ⟨g, rfl, hb, (Array.getElem?_eq_some_iff.1 hg).1, fun j hj => ?_, fun j => World.ownsRow.frozenAt h0 j⟩⟩
    have := World.ownsRow.cellAt h0 j (by omega)
    have hj2 : j < zs.length := by omega
    rw [this, List.getElem?_map, List.getElem?_eq_getElem hj2]
    simp [List.getD, hj2]
theorem eqPointS_same (B1 B2 : Nat) (v1 v2 : Value) (n : Nat) (zs : List Int) (w : World) (h1 : OwnF B1 w v1 n zs) (h2 : OwnF B2 w v2 n zs) (hx : n ≤ 140737488351232) :
    Calls Try.prog 21 #[v1, v2] w fun e w' => e = .returned (.bool true) ∧ Below w.heap.size w w' := by
  obtain ⟨a1, c1, rfl, f1⟩ := own_viewF h1
  obtain ⟨a2, c2, rfl, f2⟩ := own_viewF h2
  clear h1 h2
  by_cases hz : n = 0
  · subst hz
    clear f1 f2
    go_enter Try.func21, Try.ntmps21
    go_wp2
    refine wp_loop_rounds 1 ?_
    rw [rounds_succ]
    go_wp2
    go_ret
    exact ⟨rfl, by (repeat' (first | (with_reducible exact Below.refl _ _) | (with_reducible refine Below.alloc ?_ ?_ _) | (with_reducible refine Below.setCell ?_ ?_ _) | (with_reducible refine Below.drew ?_) | (with_reducible refine below_drewN ?_ _) | (with_reducible assumption) | (with_reducible refine below_after (by with_reducible assumption) ?_) | go_size))⟩
  · obtain ⟨g1, rfl, _, hg1, hc1, _⟩ := f1 (by omega)
    obtain ⟨g2, rfl, _, hg2, hc2, _⟩ := f2 (by omega)
    have HC1 := Lib.hid hc1
    have HC2 := Lib.hid hc2
    clear f1 f2 hc1 hc2 hz
    go_enter Try.func21, Try.ntmps21
    go_wp2
    go_loopw [5] (fun i wr => ∃ k : Nat, k ≤ n ∧ i = .int .i64 k ∧ Below w.heap.size w wr) (fun i _ => n - (intOf i).toNat)
    case atStart => exact ⟨0, by omega, rfl, Below.refl _ _⟩
    case round =>
      obtain ⟨k, hk, rfl, hbel⟩ := hrel
      by_cases hlt : k < n
      · have e1 := (hbel.cell (p := ⟨g1, k * 2, none⟩) hg1).trans (HC1.out (k * 2) (by omega))
        have e2 := (hbel.cell (p := ⟨g2, k * 2, none⟩) hg2).trans (HC2.out (k * 2) (by omega))
        have e3 := (hbel.cell (p := ⟨g1, k * 2 + 1, none⟩) hg1).trans (HC1.out (k * 2 + 1) (by omega))
        have e4 := (hbel.cell (p := ⟨g2, k * 2 + 1, none⟩) hg2).trans (HC2.out (k * 2 + 1) (by omega))
        obtain ⟨x, hx0⟩ : ∃ x, zs.getD (k * 2) 0 = x := ⟨_, rfl⟩
        obtain ⟨y, hy0⟩ : ∃ y, zs.getD (k * 2 + 1) 0 = y := ⟨_, rfl⟩
        rw [hx0] at e1 e2
        rw [hy0] at e3 e4
        clear hx0 hy0
        have i0 : (0 : Int) ≤ (k : Int) := by omega
        have i1 : (k : Int) < (n : Int) := by omega
        go_wp2
        go_region_with (go_at_call 28; refine (eqPoint_same _ _ _).mono ?_; rintro e wn ⟨rfl, hbn⟩)
        all_goals
          go_wp2
          go_roundw
          case rel => exact ⟨k + 1, by omega, by go_num, below_after hbn (by (repeat' (first | (with_reducible exact Below.refl _ _) | (with_reducible refine Below.alloc ?_ ?_ _) | (with_reducible refine Below.setCell ?_ ?_ _) | (with_reducible refine Below.drew ?_) | (with_reducible refine below_drewN ?_ _) | (with_reducible assumption) | (with_reducible refine below_after (by with_reducible assumption) ?_) | go_size)))⟩
          case measure => simp [intOf]; omega
      · have hge : n ≤ k := by omega
        clear hlt
        go_wp2
        go_ret
        exact ⟨rfl, by (repeat' (first | (with_reducible exact Below.refl _ _) | (with_reducible refine Below.alloc ?_ ?_ _) | (with_reducible refine Below.setCell ?_ ?_ _) | (with_reducible refine Below.drew ?_) | (with_reducible refine below_drewN ?_ _) | (with_reducible assumption) | (with_reducible refine below_after (by with_reducible assumption) ?_) | go_size))⟩
theorem heldPointS_marks (B : Nat) (v : Value) (k0 : Int) (n : Nat) (w : World) (h : OwnF B w v n (marks k0 (n * 2))) (hk : 0 ≤ k0) (hk2 : k0 ≤ 4611686018427387904) (hx : n ≤ 140737488351232) :
    Calls Try.prog 23 #[v, .int .i64 k0] w fun e w' => e = .returned (.int .i64 (k0 + n * 2)) ∧ w = w' := by
  obtain ⟨a, cap, rfl, f⟩ := own_viewF h
  clear h
  by_cases hz : n = 0
  · subst hz
    clear f
    go_enter Try.func23, Try.ntmps23
    go_wp2
    refine wp_loop_rounds 1 ?_
    rw [rounds_succ]
    go_wp2
    go_ret
    exact ⟨ret_int (by omega), rfl⟩
  · obtain ⟨g, rfl, _, hg, hc, _⟩ := f (by omega)
    have HC := Lib.hid hc
    clear f hc hz
    go_enter Try.func23, Try.ntmps23
    go_wp2
    go_loop [1, 5] (fun m i => ∃ k : Nat, k ≤ n ∧ i = .int .i64 k ∧ m = .int .i64 (k0 + k * 2)) (fun _ i => n - (intOf i).toNat)
    case atStart => exact ⟨0, by omega, rfl, by go_num⟩
    case round =>
      obtain ⟨k, hk3, rfl, rfl⟩ := hrel
      by_cases hlt : k < n
      · have e1 := HC.out (k * 2) (by omega)
        have e2 := HC.out (k * 2 + 1) (by omega)
        rw [marks_get k0 _ _ (by omega)] at e1 e2
        have n1 : ((k * 2 : Nat) : Int) = (k : Int) * 2 := by omega
        have n2 : ((k * 2 + 1 : Nat) : Int) = (k : Int) * 2 + 1 := by omega
        rw [n1] at e1
        rw [n2, ← Int.add_assoc] at e2
        have i0 : (0 : Int) ≤ (k : Int) := by omega
        have i1 : (k : Int) < (n : Int) := by omega
        clear n1 n2
        go_wp2
        refine wp_loop_rounds 3 ?_
        rw [rounds_succ]
        go_wp2
        rw [rounds_succ]
        go_wp2
        rw [rounds_succ]
        go_wp2
        go_round
        case rel => exact ⟨k + 1, by omega, by go_num, by go_num⟩
        case measure => simp [intOf]; omega
      · have hge : n ≤ k := by omega
        clear hlt
        go_wp2
        go_ret
        exact ⟨ret_int (by omega), rfl⟩
end Go.Proofs.Ytmjhejmkmdgikaa
