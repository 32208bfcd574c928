/-
  Whether a form is in a list, in the program and in the model (own work).
-/
import Derived.Test.YtohnmogejidpdaaFoX
namespace Go.Proofs.Ytohnmogejidpdaa
open Go.ChangeShapes Go.WideShapes Go.ChangeAt Go.RowKit
set_option linter.unusedVariables false
set_option linter.unusedSimpArgs false
set_option maxRecDepth 100000

theorem take_not {l : List Tr} {k : Nat} {x y : Tr} (h : x ∉ l.take k) (hk : l[k]? = some y) (hne : ¬ y = x) : x ∉ l.take (k + 1) := by
  rw [List.take_add_one, hk]
  simp only [Option.toList_some, List.mem_append, List.mem_singleton]
  rintro (h' | h')
  · exact h h'
  · exact hne h'.symm
theorem mem_of_at {l : List Tr} {k : Nat} {x y : Tr} (hk : l[k]? = some y) (e : y = x) : x ∈ l := by
  subst e
  exact List.mem_of_getElem? hk
set_option maxHeartbeats 1600000 in
theorem l06Has_any (B : Nat) (v : Value) (l : List Tr) (a b c : Int) (w : World) (h : OwnT B w v l) (hx : l.length ≤ 140737488351232) :
    Calls Try.prog 83 #[v, .agg #[.int .i64 a, .int .i64 b, .int .i64 c]] w fun e w' => e = .returned (.bool (decide ((a, b, c) ∈ l))) ∧ Below w.heap.size w w' := by
  obtain ⟨va, cap, rfl, f⟩ := viewOwnFo h
  clear h
  obtain ⟨n, hn⟩ : ∃ n, l.length = n := ⟨_, rfl⟩
  rw [hn] at f hx ⊢
  by_cases hz : n = 0
  · have hl : l = [] := List.length_eq_zero_iff.1 (by omega)
    subst hz
    rw [hl]
    clear f hl hn
    go_enter Try.func83, Try.ntmps83
    go_wp2
    refine wp_loop_rounds 1 ?_
    rw [rounds_succ]
    go_wp2
    go_ret
    exact ⟨rfl, by (repeat' (first | (with_reducible exact Below.refl _ _) | (with_reducible refine Below.alloc ?_ ?_ _) | (with_reducible refine Below.setCell ?_ ?_ _) | (with_reducible refine Below.drew ?_) | (with_reducible refine below_drewN ?_ _) | (with_reducible assumption) | (with_reducible refine below_after (by with_reducible assumption) ?_) | go_size))⟩
  · obtain ⟨g, rfl, _, hg, hc, _⟩ := f (by omega)
    have HC := Lib.hid hc
    have HN := Lib.hid hn
    obtain ⟨G, hG⟩ : ∃ G, w.heap.size = G := ⟨_, rfl⟩
    have HG := Lib.hid hG
    clear f hc hz hn
    go_enter Try.func83, Try.ntmps83
    go_upto_region 1 with fail
    obtain ⟨w0, hw0⟩ : ∃ w0, w0 = w.alloc (.cells #[.int .i64 a, .int .i64 b, .int .i64 c] 43) := ⟨_, rfl⟩
    rw [← hw0]
    have HX : Hid (Bk3 w0 G a b c) := by rw [hw0, ← hG]; exact bk3_new w a b c _
    have HB : Hid (Below w.heap.size w w0) := by show Below w.heap.size w w0; rw [hw0]; (repeat' (first | (with_reducible exact Below.refl _ _) | (with_reducible refine Below.alloc ?_ ?_ _) | (with_reducible refine Below.setCell ?_ ?_ _) | (with_reducible refine Below.drew ?_) | (with_reducible refine below_drewN ?_ _) | (with_reducible assumption) | (with_reducible refine below_after (by with_reducible assumption) ?_) | go_size))
    clear hw0
    go_wp2_with fail
    go_loopw [5] (fun i wr => ∃ k : Nat, k ≤ n ∧ i = .int .i64 k ∧ (a, b, c) ∉ l.take k ∧ Below w0.heap.size w0 wr) (fun i _ => n - (intOf i).toNat)
    case atStart => exact ⟨0, by omega, rfl, by simp, Below.refl _ _⟩
    case round =>
      obtain ⟨k, hk, rfl, hnot, hbel⟩ := hrel
      have HK := Lib.hid hnot
      have HX2 := Lib.hid (HX.out.below hbel)
      have HBB := Lib.hid (HB.out.trans (hbel.mono HB.out.size))
      have HBR := Lib.hid hbel
      clear hnot hbel
      by_cases hlt : k < n
      · obtain ⟨y, hy⟩ : ∃ y, l[k]? = some y := ⟨_, List.getElem?_eq_getElem (by have := HN.out; omega)⟩
        have HY := Lib.hid hy
        have hcell := fun j (hj : j < n * 3) => (HBB.out.cell (p := ⟨g, j, none⟩) hg).trans (HC.out j hj)
        obtain ⟨p0, p1, p2⟩ := flT_at l k y hy
        have e0 := hcell (k * 3) (by omega)
        have e1 := hcell (k * 3 + 1) (by omega)
        have e2 := hcell (k * 3 + 1 + 1) (by omega)
        rw [p0] at e0
        rw [p1] at e1
        rw [p2] at e2
        obtain ⟨y0, y1, y2⟩ := y
        dsimp only at e0 e1 e2
        have he := eq_fo y0 y1 y2 a b c
        rw [beq_tr (y0, y1, y2) (a, b, c)] at he
        have i0 : (0 : Int) ≤ (k : Int) := by omega
        have i1 : (k : Int) < (n : Int) := by omega
        obtain ⟨⟨x0, x1, x2⟩, ⟨f0, f1, f2⟩, gz⟩ := HX2.out
        clear hcell p0 p1 p2 hy
        by_cases hq : (y0, y1, y2) = (a, b, c)
        · rw [decide_eq_true hq] at he
          have HF : Hid (decide ((a, b, c) ∈ l) = true) := decide_eq_true (mem_of_at HY.out hq)
          clear hq
          go_wp2
          go_quiet (fail)
          go_wp2
          go_ret
          have hb := HBB.out
          exact ⟨by rw [HF.out]; rfl, by (repeat' (first | (with_reducible exact Below.refl _ _) | (with_reducible refine Below.alloc ?_ ?_ _) | (with_reducible refine Below.setCell ?_ ?_ _) | (with_reducible refine Below.drew ?_) | (with_reducible refine below_drewN ?_ _) | (with_reducible assumption) | (with_reducible refine below_after (by with_reducible assumption) ?_) | go_size))⟩
        · rw [decide_eq_false hq] at he
          have HF := Lib.hid (take_not HK.out HY.out hq)
          clear hq
          go_wp2
          go_quiet (fail)
          go_wp2
          go_roundw
          case rel => exact ⟨k + 1, by omega, by go_num, HF.out, by have hb := HBR.out; (repeat' (first | (with_reducible exact Below.refl _ _) | (with_reducible refine Below.alloc ?_ ?_ _) | (with_reducible refine Below.setCell ?_ ?_ _) | (with_reducible refine Below.drew ?_) | (with_reducible refine below_drewN ?_ _) | (with_reducible assumption) | (with_reducible refine below_after (by with_reducible assumption) ?_) | go_size))⟩
          case measure => simp [intOf]; omega
      · have hge : n ≤ k := by omega
        have HF : Hid (decide ((a, b, c) ∈ l) = false) := by
          have := HK.out
          rw [List.take_of_length_le (by have := HN.out; omega)] at this
          exact decide_eq_false this
        clear hlt
        go_wp2
        go_ret
        have hb := HBB.out
        exact ⟨by rw [HF.out]; rfl, by (repeat' (first | (with_reducible exact Below.refl _ _) | (with_reducible refine Below.alloc ?_ ?_ _) | (with_reducible refine Below.setCell ?_ ?_ _) | (with_reducible refine Below.drew ?_) | (with_reducible refine below_drewN ?_ _) | (with_reducible assumption) | (with_reducible refine below_after (by with_reducible assumption) ?_) | go_size))⟩
set_option maxHeartbeats 1600000 in
theorem indexFo_any (B : Nat) (v : Value) (l : List Tr) (a b c : Int) (w : World) (h : OwnT B w v l) (hx : l.length ≤ 140737488351232) :
    Calls Try.prog 101 #[v, .agg #[.int .i64 a, .int .i64 b, .int .i64 c]] w fun e w' => (∃ z : Int, e = .returned (.int .i64 z) ∧ decide (0 ≤ z) = decide ((a, b, c) ∈ l)) ∧ Below w.heap.size w w' := by
  obtain ⟨va, cap, rfl, f⟩ := viewOwnFo h
  clear h
  obtain ⟨n, hn⟩ : ∃ n, l.length = n := ⟨_, rfl⟩
  rw [hn] at f hx ⊢
  by_cases hz : n = 0
  · have hl : l = [] := List.length_eq_zero_iff.1 (by omega)
    subst hz
    rw [hl]
    clear f hl hn
    go_enter Try.func101, Try.ntmps101
    go_wp2
    refine wp_loop_rounds 1 ?_
    rw [rounds_succ]
    go_wp2
    go_ret
    exact ⟨⟨-1, rfl, by simp⟩, by (repeat' (first | (with_reducible exact Below.refl _ _) | (with_reducible refine Below.alloc ?_ ?_ _) | (with_reducible refine Below.setCell ?_ ?_ _) | (with_reducible refine Below.drew ?_) | (with_reducible refine below_drewN ?_ _) | (with_reducible assumption) | (with_reducible refine below_after (by with_reducible assumption) ?_) | go_size))⟩
  · obtain ⟨g, rfl, _, hg, hc, _⟩ := f (by omega)
    have HC := Lib.hid hc
    have HN := Lib.hid hn
    obtain ⟨G, hG⟩ : ∃ G, w.heap.size = G := ⟨_, rfl⟩
    have HG := Lib.hid hG
    clear f hc hz hn
    go_enter Try.func101, Try.ntmps101
    go_upto_region 1 with fail
    obtain ⟨w0, hw0⟩ : ∃ w0, w0 = w.alloc (.cells #[.int .i64 a, .int .i64 b, .int .i64 c] 43) := ⟨_, rfl⟩
    rw [← hw0]
    have HX : Hid (Bk3 w0 G a b c) := by rw [hw0, ← hG]; exact bk3_new w a b c _
    have HB : Hid (Below w.heap.size w w0) := by show Below w.heap.size w w0; rw [hw0]; (repeat' (first | (with_reducible exact Below.refl _ _) | (with_reducible refine Below.alloc ?_ ?_ _) | (with_reducible refine Below.setCell ?_ ?_ _) | (with_reducible refine Below.drew ?_) | (with_reducible refine below_drewN ?_ _) | (with_reducible assumption) | (with_reducible refine below_after (by with_reducible assumption) ?_) | go_size))
    clear hw0
    go_wp2_with fail
    go_loopw [8] (fun i wr => ∃ k : Nat, k ≤ n ∧ i = .int .i64 k ∧ (a, b, c) ∉ l.take k ∧ Below w0.heap.size w0 wr) (fun i _ => n - (intOf i).toNat)
    case atStart => exact ⟨0, by omega, rfl, by simp, Below.refl _ _⟩
    case round =>
      obtain ⟨k, hk, rfl, hnot, hbel⟩ := hrel
      have HK := Lib.hid hnot
      have HX2 := Lib.hid (HX.out.below hbel)
      have HBB := Lib.hid (HB.out.trans (hbel.mono HB.out.size))
      have HBR := Lib.hid hbel
      clear hnot hbel
      by_cases hlt : k < n
      · obtain ⟨y, hy⟩ : ∃ y, l[k]? = some y := ⟨_, List.getElem?_eq_getElem (by have := HN.out; omega)⟩
        have HY := Lib.hid hy
        have hcell := fun j (hj : j < n * 3) => (HBB.out.cell (p := ⟨g, j, none⟩) hg).trans (HC.out j hj)
        obtain ⟨p0, p1, p2⟩ := flT_at l k y hy
        have e0 := hcell (k * 3) (by omega)
        have e1 := hcell (k * 3 + 1) (by omega)
        have e2 := hcell (k * 3 + 1 + 1) (by omega)
        rw [p0] at e0
        rw [p1] at e1
        rw [p2] at e2
        obtain ⟨y0, y1, y2⟩ := y
        dsimp only at e0 e1 e2
        have he := eq_fo a b c y0 y1 y2
        rw [beq_tr (a, b, c) (y0, y1, y2)] at he
        have i0 : (0 : Int) ≤ (k : Int) := by omega
        have i1 : (k : Int) < (n : Int) := by omega
        obtain ⟨⟨x0, x1, x2⟩, ⟨f0, f1, f2⟩, gz⟩ := HX2.out
        clear hcell p0 p1 p2 hy
        by_cases hq : (a, b, c) = (y0, y1, y2)
        · rw [decide_eq_true hq] at he
          have HF : Hid (decide ((a, b, c) ∈ l) = true) := decide_eq_true (mem_of_at HY.out hq.symm)
          clear hq
          go_wp2
          go_quiet (fail)
          go_wp2
          go_ret
          have hb := HBB.out
          exact ⟨⟨k, rfl, by rw [HF.out]; simp⟩, by (repeat' (first | (with_reducible exact Below.refl _ _) | (with_reducible refine Below.alloc ?_ ?_ _) | (with_reducible refine Below.setCell ?_ ?_ _) | (with_reducible refine Below.drew ?_) | (with_reducible refine below_drewN ?_ _) | (with_reducible assumption) | (with_reducible refine below_after (by with_reducible assumption) ?_) | go_size))⟩
        · rw [decide_eq_false hq] at he
          have HF := Lib.hid (take_not HK.out HY.out (fun h => hq h.symm))
          clear hq
          go_wp2
          go_quiet (fail)
          go_wp2
          go_roundw
          case rel => exact ⟨k + 1, by omega, by go_num, HF.out, by have hb := HBR.out; (repeat' (first | (with_reducible exact Below.refl _ _) | (with_reducible refine Below.alloc ?_ ?_ _) | (with_reducible refine Below.setCell ?_ ?_ _) | (with_reducible refine Below.drew ?_) | (with_reducible refine below_drewN ?_ _) | (with_reducible assumption) | (with_reducible refine below_after (by with_reducible assumption) ?_) | go_size))⟩
          case measure => simp [intOf]; omega
      · have hge : n ≤ k := by omega
        have HF : Hid (decide ((a, b, c) ∈ l) = false) := by
          have := HK.out
          rw [List.take_of_length_le (by have := HN.out; omega)] at this
          exact decide_eq_false this
        clear hlt
        go_wp2
        go_ret
        have hb := HBB.out
        exact ⟨⟨-1, rfl, by rw [HF.out]; decide⟩, by (repeat' (first | (with_reducible exact Below.refl _ _) | (with_reducible refine Below.alloc ?_ ?_ _) | (with_reducible refine Below.setCell ?_ ?_ _) | (with_reducible refine Below.drew ?_) | (with_reducible refine below_drewN ?_ _) | (with_reducible assumption) | (with_reducible refine below_after (by with_reducible assumption) ?_) | go_size))⟩
theorem containsFo_any (B : Nat) (v : Value) (l : List Tr) (a b c : Int) (w : World) (h : OwnT B w v l) (hx : l.length ≤ 140737488351232) :
    Calls Try.prog 84 #[v, .agg #[.int .i64 a, .int .i64 b, .int .i64 c]] w fun e w' => e = .returned (.bool (decide ((a, b, c) ∈ l))) ∧ Below w.heap.size w w' := by
  have HI : Hid (∀ w', Below w.heap.size w w' → Calls Try.prog 101 #[v, .agg #[.int .i64 a, .int .i64 b, .int .i64 c]] w' fun e w'' => (∃ z : Int, e = .returned (.int .i64 z) ∧ decide (0 ≤ z) = decide ((a, b, c) ∈ l)) ∧ Below w'.heap.size w' w'') := fun w' hb => indexFo_any B v l a b c w' (h.below hb) hx
  obtain ⟨va, cap, rfl⟩ := viewT h
  clear h
  obtain ⟨n, hn⟩ : ∃ n, l.length = n := ⟨_, rfl⟩
  rw [hn] at HI hx ⊢
  clear hn
  go_enter Try.func84, Try.ntmps84
  go_wp2_with fail
  go_at_call 101
  refine (HI.out _ (by (repeat' (first | (with_reducible exact Below.refl _ _) | (with_reducible refine Below.alloc ?_ ?_ _) | (with_reducible refine Below.setCell ?_ ?_ _) | (with_reducible refine Below.drew ?_) | (with_reducible refine below_drewN ?_ _) | (with_reducible assumption) | (with_reducible refine below_after (by with_reducible assumption) ?_) | go_size)))).mono ?_
  rintro e wq ⟨⟨z, rfl, hz⟩, hq⟩
  have HZ := Lib.hid hz
  clear hz
  go_wp2
  go_ret
  exact ⟨by rw [← HZ.out]; rfl, by (repeat' (first | (with_reducible exact Below.refl _ _) | (with_reducible refine Below.alloc ?_ ?_ _) | (with_reducible refine Below.setCell ?_ ?_ _) | (with_reducible refine Below.drew ?_) | (with_reducible refine below_drewN ?_ _) | (with_reducible assumption) | (with_reducible refine below_after (by with_reducible assumption) ?_) | go_size))⟩
end Go.Proofs.Ytohnmogejidpdaa
