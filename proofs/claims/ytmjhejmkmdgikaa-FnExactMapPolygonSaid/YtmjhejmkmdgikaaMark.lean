/-
  Contracts of the laws' helpers on lists of int64: equal lists, lists that are marked, marks that are held (own work).
-/
import Derived.Test.YtmjhejmkmdgikaaList
namespace Go.Proofs.Ytmjhejmkmdgikaa
open Go.ChangeShapes Go.WideShapes Go.ChangeAt Go.RowKit
set_option linter.unusedVariables false
set_option maxRecDepth 100000
set_option linter.unusedSimpArgs false

theorem own_view {B : Nat} {w : World} {v : Value} {xs : List Int} (h : OwnI B w v xs) :
    ∃ (a : Option Addr) (cap : Nat), v = .slice a xs.length cap ∧ (0 < xs.length → ∃ g, a = some ⟨g, 0, none⟩ ∧ B ≤ g ∧ g < w.heap.size ∧ (∀ j, j < xs.length → w.cell? ⟨g, j, none⟩ = some (.int .i64 (xs.getD j 0))) ∧ (∀ j, w.frozen? ⟨g, j, none⟩ = false)) := by
  have h0 := h
  rcases h.2 with ⟨rfl, hn⟩ | ⟨g, cap, cur, rfl, hb, hg, _⟩
  · exact ⟨none, 0, by rw [hn], fun hp => by omega⟩
  · refine ⟨some ⟨g, 0, none⟩, cap, rfl, fun _ => ⟨g, rfl, hb, (Array.getElem?_eq_some_iff.1 hg).1, fun j hj => ?_, fun j => World.ownsRow.frozenAt h0 j⟩⟩
    have := World.ownsRow.cellAt h0 j (by omega)
    rw [this, List.getElem?_map, List.getElem?_eq_getElem hj]
    simp [List.getD, hj]

theorem eqInt64S_same (B1 B2 : Nat) (v1 v2 : Value) (xs : List Int) (w : World) (h1 : OwnI B1 w v1 xs) (h2 : OwnI B2 w v2 xs) (hx : xs.length ≤ 140737488351232) :
    Calls Try.prog 35 #[v1, v2] w fun e w' => e = .returned (.bool true) ∧ Below w.heap.size w w' := by
  obtain ⟨a1, c1, rfl, f1⟩ := own_view h1
  obtain ⟨a2, c2, rfl, f2⟩ := own_view h2
  clear h1 h2
  by_cases hz : xs.length = 0
  · rw [hz]
    clear f1 f2
    go_enter Try.func35, Try.ntmps35
    go_wp2
    refine wp_loop_rounds 1 ?_
    rw [rounds_succ]
    go_wp2
    go_ret
    exact ⟨rfl, by (repeat' (first | (with_reducible exact Below.refl _ _) | (with_reducible refine Below.alloc ?_ ?_ _) | (with_reducible refine Below.setCell ?_ ?_ _) | (with_reducible refine Below.drew ?_) | (with_reducible refine below_drewN ?_ _) | (with_reducible assumption) | (with_reducible refine below_after (by with_reducible assumption) ?_) | go_size))⟩
  · obtain ⟨g1, rfl, _, hg1, hc1, _⟩ := f1 (by omega)
    obtain ⟨g2, rfl, _, hg2, hc2, _⟩ := f2 (by omega)
    have HC1 := Lib.hid hc1
    have HC2 := Lib.hid hc2
    obtain ⟨n, hn⟩ : ∃ n, n = xs.length := ⟨_, rfl⟩
    rw [← hn] at hx ⊢
    have HN := Lib.hid hn
    clear f1 f2 hc1 hc2 hn hz
    go_enter Try.func35, Try.ntmps35
    go_wp2
    go_loopw [5] (fun i wr => ∃ k : Nat, k ≤ n ∧ i = .int .i64 k ∧ Below w.heap.size w wr) (fun i _ => n - (intOf i).toNat)
    case atStart => exact ⟨0, by omega, rfl, Below.refl _ _⟩
    case round =>
      obtain ⟨k, hk, rfl, hbel⟩ := hrel
      by_cases hlt : k < n
      · have e1 := (hbel.cell (p := ⟨g1, k, none⟩) hg1).trans (HC1.out k (by rw [← HN.out]; exact hlt))
        have e2 := (hbel.cell (p := ⟨g2, k, none⟩) hg2).trans (HC2.out k (by rw [← HN.out]; exact hlt))
        obtain ⟨x, hx0⟩ : ∃ x, xs.getD k 0 = x := ⟨_, rfl⟩
        rw [hx0] at e1 e2
        clear hx0
        have i0 : (0 : Int) ≤ (k : Int) := by omega
        have i1 : (k : Int) < (n : Int) := by omega
        go_wp2
        go_quiet (fail)
        go_wp2
        go_roundw
        case rel => exact ⟨k + 1, by omega, by go_num, by (repeat' (first | (with_reducible exact Below.refl _ _) | (with_reducible refine Below.alloc ?_ ?_ _) | (with_reducible refine Below.setCell ?_ ?_ _) | (with_reducible refine Below.drew ?_) | (with_reducible refine below_drewN ?_ _) | (with_reducible assumption) | (with_reducible refine below_after (by with_reducible assumption) ?_) | go_size))⟩
        case measure => simp [intOf]; omega
      · have hge : n ≤ k := by omega
        clear hlt
        go_wp2
        go_ret
        exact ⟨rfl, by (repeat' (first | (with_reducible exact Below.refl _ _) | (with_reducible refine Below.alloc ?_ ?_ _) | (with_reducible refine Below.setCell ?_ ?_ _) | (with_reducible refine Below.drew ?_) | (with_reducible refine below_drewN ?_ _) | (with_reducible assumption) | (with_reducible refine below_after (by with_reducible assumption) ?_) | go_size))⟩
/-- The numbers k0, k0 + 1, .. -/
def marks (k0 : Int) (n : Nat) : List Int := (List.range n).map (fun (i : Nat) => k0 + (i : Int))
theorem marks_len (k0 : Int) (n : Nat) : (marks k0 n).length = n := by simp [marks]
theorem marks_get (k0 : Int) (n j : Nat) (h : j < n) : (marks k0 n).getD j 0 = k0 + j := by simp [marks, List.getD, h]
theorem marks_set (k0 : Int) (xs : List Int) (k : Nat) (h : k < xs.length) : (marks k0 k ++ xs.drop k).set k (k0 + k) = marks k0 (k + 1) ++ xs.drop (k + 1) := by
  rw [List.set_append_right _ _ (by rw [marks_len]; omega), marks_len, Nat.sub_self, List.drop_eq_getElem_cons h, List.set_cons_zero]
  simp [marks, List.range_succ]
theorem grown_cell {w w' : World} {g : Nat} (hg : w.grownBy w' (some g)) {b o : Nat} (hb : b < w.heap.size) (hne : b ≠ g) : w'.cell? ⟨b, o, none⟩ = w.cell? ⟨b, o, none⟩ := hg.cell_far _ hb (by simpa using hne)

theorem grown_trans {a b c : World} {row : Option Nat} (h : a.grownBy b row) (k : b.grownBy c row) : a.grownBy c row :=
  ⟨k.os.trans h.os, k.tape.trans h.tape, k.output.trans h.output, Nat.le_trans h.size k.size, fun i hi hr => (k.block i (Nat.lt_of_lt_of_le hi h.size) hr).trans (h.block i hi hr)⟩

theorem heldInt64S_marks (B : Nat) (v : Value) (k0 : Int) (n : Nat) (w : World) (h : OwnI B w v (marks k0 n)) (hk : 0 ≤ k0) (hk2 : k0 ≤ 4611686018427387904) (hx : n ≤ 140737488351232) :
    Calls Try.prog 37 #[v, .int .i64 k0] w fun e w' => e = .returned (.int .i64 (k0 + n)) ∧ w = w' := by
  obtain ⟨a, cap, hv, f⟩ := own_view h
  rw [marks_len] at hv f
  subst hv
  clear h
  by_cases hz : n = 0
  · subst hz
    clear f
    go_enter Try.func37, Try.ntmps37
    go_wp2
    refine wp_loop_rounds 1 ?_
    rw [rounds_succ]
    go_wp2
    go_ret
    exact ⟨ret_int (by omega), rfl⟩
  · obtain ⟨g, rfl, _, hg, hc, _⟩ := f (by omega)
    have HC := Lib.hid hc
    clear f hc hz
    go_enter Try.func37, Try.ntmps37
    go_wp2
    go_loop [1, 5] (fun m i => ∃ k : Nat, k ≤ n ∧ i = .int .i64 k ∧ m = .int .i64 (k0 + k)) (fun _ i => n - (intOf i).toNat)
    case atStart => exact ⟨0, by omega, rfl, by go_num⟩
    case round =>
      obtain ⟨k, hk3, rfl, rfl⟩ := hrel
      by_cases hlt : k < n
      · have e1 := HC.out k hlt
        rw [marks_get k0 n k hlt] at e1
        go_wp2
        go_round
        case rel => exact ⟨k + 1, by omega, by go_num, by go_num⟩
        case measure => simp [intOf]; omega
      · have hge : n ≤ k := by omega
        clear hlt
        go_wp2
        go_ret
        exact ⟨ret_int (by omega), rfl⟩
theorem markInt64S_any (B : Nat) (v : Value) (xs : List Int) (k0 : Int) (w : World) (h : OwnI B w v xs) (hk : 0 ≤ k0) (hk2 : k0 ≤ 4611686018427387904) (hx : xs.length ≤ 140737488351232) :
    Calls Try.prog 36 #[v, .int .i64 k0] w fun e w' => e = .returned (.int .i64 (k0 + xs.length)) ∧ OwnI B w' v (marks k0 xs.length) ∧ w.grownBy w' v.ownBlock := by
  have h0 := h
  obtain ⟨a, cap, rfl, f⟩ := own_view h
  obtain ⟨n, hn⟩ : ∃ n, xs.length = n := ⟨_, rfl⟩
  by_cases hz : n = 0
  · have hxs : xs = [] := List.length_eq_zero_iff.1 (by omega)
    subst hxs
    clear f hn
    have HO := Lib.hid h0
    clear h h0
    simp only [List.length_nil] at HO ⊢
    go_enter Try.func36, Try.ntmps36
    go_wp2
    refine wp_loop_rounds 1 ?_
    rw [rounds_succ]
    go_wp2
    go_ret
    exact ⟨ret_int (by simp), HO.out, World.grownBy.refl _ _⟩
  · obtain ⟨g, rfl, hBg, hg, hc, _⟩ := f (by omega)
    have HO := Lib.hid h0
    have HN := Lib.hid hn
    clear f hc hz h h0
    rw [hn] at HO ⊢
    rw [hn] at hx
    clear hn
    go_enter Try.func36, Try.ntmps36
    go_wp2
    go_loopw [1, 5] (fun m i wr => ∃ k : Nat, k ≤ n ∧ i = .int .i64 k ∧ m = .int .i64 (k0 + k) ∧ OwnI B wr (.slice (some ⟨g, 0, none⟩) n cap) (marks k0 k ++ xs.drop k) ∧ w.grownBy wr (some g)) (fun _ i _ => n - (intOf i).toNat)
    case atStart => exact ⟨0, by omega, rfl, by go_num, HO.out, World.grownBy.refl _ _⟩
    case round =>
      obtain ⟨k, hk3, rfl, rfl, hown, hgr⟩ := hrel
      have HW := Lib.hid hown
      have HG := Lib.hid hgr
      clear hown hgr
      by_cases hlt : k < n
      · have hl : (marks k0 k ++ xs.drop k).length = n := by rw [List.length_append, marks_len, List.length_drop, HN.out]; omega
        have hcell := World.ownsRow.cellAt (by have := HW.out; unfold OwnI at this; rw [hl] at this; exact this) k (by omega)
        have hfr := World.ownsRow.frozenAt (by have := HW.out; unfold OwnI at this; rw [hl] at this; exact this) k
        have hst := World.ownsRow.stored (by have := HW.out; unfold OwnI at this; rw [hl] at this; exact this) k (.int .i64 (k0 + k))
        have hst1 := Lib.hid hst.1
        have hst2 := Lib.hid hst.2
        obtain ⟨old, hold⟩ : ∃ old, ((marks k0 k ++ xs.drop k).map (Value.int .i64))[k]? = some old := ⟨_, List.getElem?_eq_getElem (by rw [List.length_map, hl]; exact hlt)⟩
        rw [hold] at hcell
        clear hst hold hl
        go_wp2
        go_roundw
        case rel =>
          refine ⟨k + 1, by omega, by go_num, by go_num, ?_, ?_⟩
          · have h1 := hst1.out
            rw [← List.map_set, marks_set k0 xs k (by rw [HN.out]; exact hlt)] at h1
            show World.ownsRow _ _ _ _ _ (marks k0 (k + 1) ++ xs.drop (k + 1)).length _
            rw [show (marks k0 (k + 1) ++ xs.drop (k + 1)).length = n from by rw [List.length_append, marks_len, List.length_drop, HN.out]; omega]
            exact h1
          · exact grown_trans HG.out hst2.out
        case measure => simp [intOf]; omega
      · have hge : n ≤ k := by omega
        clear hlt
        go_wp2
        go_ret
        obtain rfl : k = n := by omega
        refine ⟨ret_int (by omega), ?_, HG.out⟩
        have := HW.out
        rw [List.drop_of_length_le (by rw [HN.out]; exact Nat.le_refl _), List.append_nil] at this
        exact this
end Go.Proofs.Ytmjhejmkmdgikaa
