/-
  A point looked for in a list of points: slices.Index and slices.Contains (own work).
-/
import Derived.Test.YtibmkmcdggokbaaRowP
import Derived.Test.YtibmkmcdggokbaaPtL
import Derived.Test.YtibmkmcdggokbaaBlk
import Derived.Deep.DeepCutAuto
namespace Go.Proofs.Ytibmkmcdggokbaa
open Go.ChangeShapes Go.WideShapes Go.ChangeAt Go.RowKit
set_option linter.unusedVariables false
set_option linter.unusedSimpArgs false
set_option maxRecDepth 100000

theorem beq_pt (a b c d : Int) : (a == c && b == d) = decide ((a, b) = (c, d)) := by
  by_cases h1 : a = c <;> by_cases h2 : b = d <;> simp [h1, h2]
theorem take_notP {x : Int × Int} {l : List (Int × Int)} {k : Nat} (h : x ∉ l.take k) (hk : k < l.length) (hne : x ≠ l.getD k (0, 0)) : x ∉ l.take (k + 1) := by
  rw [List.take_succ_eq_append_getElem hk]
  intro hm
  rcases List.mem_append.1 hm with hm | hm
  · exact h hm
  · apply hne
    simp only [List.mem_singleton] at hm
    rw [hm, List.getD_eq_getElem?_getD, List.getElem?_eq_getElem hk]
    rfl
theorem mem_getD {l : List (Int × Int)} {k : Nat} (hk : k < l.length) : l.getD k (0, 0) ∈ l := by
  rw [List.getD_eq_getElem?_getD, List.getElem?_eq_getElem hk]
  exact List.getElem_mem hk
set_option maxHeartbeats 1600000 in
theorem indexP_any (B : Nat) (v : Value) (l : List (Int × Int)) (a b : Int) (w : World) (h : OwnF B w v l.length (flat l)) (hx : l.length ≤ 140737488351232) :
    Calls Try.prog 48 #[v, .agg #[.int .i64 a, .int .i64 b]] w fun e w' => (∃ z : Int, e = .returned (.int .i64 z) ∧ decide (0 ≤ z) = decide ((a, b) ∈ l)) ∧ Below w.heap.size w w' := by
  obtain ⟨va, cap, rfl, f⟩ := own_viewF h
  clear h
  obtain ⟨n, hn⟩ : ∃ n, l.length = n := ⟨_, rfl⟩
  rw [hn] at f hx ⊢
  by_cases hz : n = 0
  · have hl : l = [] := List.length_eq_zero_iff.1 (by omega)
    subst hz
    rw [hl]
    clear f hl hn
    go_enter Try.func48, Try.ntmps48
    go_wp2
    refine wp_loop_rounds 1 ?_
    rw [rounds_succ]
    go_wp2
    go_ret
    exact ⟨⟨-1, rfl, by simp⟩, by (repeat' (first | (with_reducible exact Below.refl _ _) | (with_reducible refine Below.alloc ?_ ?_ _) | (with_reducible refine Below.setCell ?_ ?_ _) | (with_reducible refine Below.drew ?_) | (with_reducible refine below_drewN ?_ _) | (with_reducible assumption) | (with_reducible refine below_after (by with_reducible assumption) ?_) | go_size))⟩
  · obtain ⟨g, rfl, _, hg, hc, _⟩ := f (by omega)
    have HC := Lib.hid hc
    have HN := Lib.hid hn
    obtain ⟨G, hG⟩ : ∃ G, w.heap.size = G := ⟨_, rfl⟩
    have HG := Lib.hid hG
    clear f hc hz hn
    go_enter Try.func48, Try.ntmps48
    go_upto_region 1 with fail
    obtain ⟨w0, hw0⟩ : ∃ w0, w0 = w.alloc (.cells #[.int .i64 a, .int .i64 b] 31) := ⟨_, rfl⟩
    rw [← hw0]
    have HX : Hid (Bk2 w0 G a b) := by rw [hw0, ← hG]; exact bk2_new w a b _
    have HB : Hid (Below w.heap.size w w0) := by show Below w.heap.size w w0; rw [hw0]; (repeat' (first | (with_reducible exact Below.refl _ _) | (with_reducible refine Below.alloc ?_ ?_ _) | (with_reducible refine Below.setCell ?_ ?_ _) | (with_reducible refine Below.drew ?_) | (with_reducible refine below_drewN ?_ _) | (with_reducible assumption) | (with_reducible refine below_after (by with_reducible assumption) ?_) | go_size))
    clear hw0
    go_wp2_with fail
    go_loopw [8] (fun i wr => ∃ k : Nat, k ≤ n ∧ i = .int .i64 k ∧ (a, b) ∉ l.take k ∧ Below w0.heap.size w0 wr) (fun i _ => n - (intOf i).toNat)
    case atStart => exact ⟨0, by omega, rfl, by simp, Below.refl _ _⟩
    case round =>
      obtain ⟨k, hk, rfl, hnot, hbel⟩ := hrel
      have HK := Lib.hid hnot
      have HX2 := Lib.hid (HX.out.below hbel)
      have HBB := Lib.hid (HB.out.trans (hbel.mono HB.out.size))
      have HBR := Lib.hid hbel
      clear hnot hbel
      by_cases hlt : k < n
      · have hcell := fun j (hj : j < n * 2) => (HBB.out.cell (p := ⟨g, j, none⟩) hg).trans (HC.out j hj)
        obtain ⟨p0, p1⟩ := flat_getD l k
        have e0 := hcell (k * 2) (by omega)
        have e1 := hcell (k * 2 + 1) (by omega)
        rw [p0] at e0
        rw [p1] at e1
        obtain ⟨y0, y1, hy⟩ : ∃ y0 y1, l.getD k (0, 0) = (y0, y1) := ⟨_, _, rfl⟩
        have HY := Lib.hid hy
        rw [hy] at e0 e1
        dsimp only at e0 e1
        have he := fun w => eq_pt a b y0 y1 w
        simp only [beq_pt a b y0 y1] at he
        have i0 : (0 : Int) ≤ (k : Int) := by omega
        have i1 : (k : Int) < (n : Int) := by omega
        obtain ⟨⟨x0, x1⟩, ⟨f0, f1⟩, gz⟩ := HX2.out
        have gw : g < wr.heap.size := World.block_lt_of_cell? wr _ e0
        clear hcell p0 p1 hy
        by_cases hq : (a, b) = (y0, y1)
        · simp only [decide_eq_true hq] at he
          have HF : Hid (decide ((a, b) ∈ l) = true) := decide_eq_true (by rw [hq, ← HY.out]; exact mem_getD (by rw [HN.out]; exact hlt))
          clear hq
          go_wp2
          go_quiet (fail)
          go_wp2
          go_ret
          have hb := HBB.out
          exact ⟨⟨k, rfl, by rw [HF.out]; simp⟩, by (repeat' (first | (with_reducible exact Below.refl _ _) | (with_reducible refine Below.alloc ?_ ?_ _) | (with_reducible refine Below.setCell ?_ ?_ _) | (with_reducible refine Below.drew ?_) | (with_reducible refine below_drewN ?_ _) | (with_reducible assumption) | (with_reducible refine below_after (by with_reducible assumption) ?_) | go_size))⟩
        · simp only [decide_eq_false hq] at he
          have HF := Lib.hid (take_notP HK.out (by rw [HN.out]; exact hlt) (by rw [HY.out]; exact hq))
          clear hq
          go_wp2
          go_quiet (fail)
          go_wp2
          go_roundw
          case rel => exact ⟨k + 1, by omega, by go_num, HF.out, by have hb := HBR.out; (repeat' (first | (with_reducible exact Below.refl _ _) | (with_reducible refine Below.alloc ?_ ?_ _) | (with_reducible refine Below.setCell ?_ ?_ _) | (with_reducible refine Below.drew ?_) | (with_reducible refine below_drewN ?_ _) | (with_reducible assumption) | (with_reducible refine below_after (by with_reducible assumption) ?_) | go_size))⟩
          case measure => simp [intOf]; omega
      · have hge : n ≤ k := by omega
        have HF : Hid (decide ((a, b) ∈ l) = false) := by
          have := HK.out
          rw [List.take_of_length_le (by have := HN.out; omega)] at this
          exact decide_eq_false this
        clear hlt
        go_wp2
        go_ret
        have hb := HBB.out
        exact ⟨⟨-1, rfl, by rw [HF.out]; decide⟩, by (repeat' (first | (with_reducible exact Below.refl _ _) | (with_reducible refine Below.alloc ?_ ?_ _) | (with_reducible refine Below.setCell ?_ ?_ _) | (with_reducible refine Below.drew ?_) | (with_reducible refine below_drewN ?_ _) | (with_reducible assumption) | (with_reducible refine below_after (by with_reducible assumption) ?_) | go_size))⟩
theorem containsP_any (B : Nat) (v : Value) (l : List (Int × Int)) (a b : Int) (w : World) (h : OwnF B w v l.length (flat l)) (hx : l.length ≤ 140737488351232) :
    Calls Try.prog 32 #[v, .agg #[.int .i64 a, .int .i64 b]] w fun e w' => e = .returned (.bool (decide ((a, b) ∈ l))) ∧ Below w.heap.size w w' := by
  have HI : Hid (∀ w', Below w.heap.size w w' → Calls Try.prog 48 #[v, .agg #[.int .i64 a, .int .i64 b]] w' fun e w'' => (∃ z : Int, e = .returned (.int .i64 z) ∧ decide (0 ≤ z) = decide ((a, b) ∈ l)) ∧ Below w'.heap.size w' w'') := fun w' hb => indexP_any B v l a b w' (h.below hb) hx
  obtain ⟨va, cap, rfl, _⟩ := own_viewF h
  clear h
  go_enter Try.func32, Try.ntmps32
  go_wp2_with fail
  go_at_call 48
  refine (HI.out _ (by (repeat' (first | (with_reducible exact Below.refl _ _) | (with_reducible refine Below.alloc ?_ ?_ _) | (with_reducible refine Below.setCell ?_ ?_ _) | (with_reducible refine Below.drew ?_) | (with_reducible refine below_drewN ?_ _) | (with_reducible assumption) | (with_reducible refine below_after (by with_reducible assumption) ?_) | go_size)))).mono ?_
  rintro e wq ⟨⟨z, rfl, hz⟩, hq⟩
  have HZ := Lib.hid hz
  clear hz
  go_wp2
  go_ret
  exact ⟨by rw [← HZ.out]; rfl, by (repeat' (first | (with_reducible exact Below.refl _ _) | (with_reducible refine Below.alloc ?_ ?_ _) | (with_reducible refine Below.setCell ?_ ?_ _) | (with_reducible refine Below.drew ?_) | (with_reducible refine below_drewN ?_ _) | (with_reducible assumption) | (with_reducible refine below_after (by with_reducible assumption) ?_) | go_size))⟩
end Go.Proofs.Ytibmkmcdggokbaa
