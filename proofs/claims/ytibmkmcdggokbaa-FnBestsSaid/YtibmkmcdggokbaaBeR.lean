/-
  BestOfSecond, BestOfFirst and NearestFraction, in the program and in the model (own work).
-/
import Derived.Test.YtibmkmcdggokbaaBeQ
namespace Go.Proofs.Ytibmkmcdggokbaa
open Go.ChangeShapes Go.WideShapes Go.ChangeAt Go.RowKit
set_option linter.unusedVariables false
set_option linter.unusedSimpArgs false
set_option maxRecDepth 100000

theorem impl_BestOfSecond_any (p q n : Int) (w : World) : Calls Try.prog 6 #[.int .i64 p, .int .i64 q, .int .i64 n] w (RetPC w (bsL true p q n) (bsC p q n)) := by
  obtain ⟨L, hL⟩ : ∃ L, bsL true p q n = L := ⟨_, rfl⟩
  obtain ⟨C, hC⟩ : ∃ C, bsC p q n = C := ⟨_, rfl⟩
  have H := Lib.hid (fun w => bestS_any p q n w)
  rw [hL, hC] at H ⊢
  clear hL hC
  go_enter Try.func6, Try.ntmps6
  go_wp2_with (go_at_call 22; refine (H.out _).mono ?_; rintro e w1 ⟨v, rfl, ho, hb⟩)
  go_ret2
  exact ⟨v, rfl, ho, hb⟩
theorem spec_BestOfSecond_any (p q n : Int) (w : World) : Calls Try.prog 7 #[.int .i64 p, .int .i64 q, .int .i64 n] w (RetPC w (bsL true p q n) (bsC p q n)) := by
  unfold bsL bsC
  cases h1 : rtB p q 1
  · rw [if_neg (by decide), if_neg (by decide)]
    go_enter Try.func7, Try.ntmps7
    go_wp2_with (first | (go_at_call 23; refine (l10Ratio_any _ _ _ _).mono ?_; rintro e wn ⟨rfl, rfl⟩) | (go_at_call 24; refine (l01In_any _ _ _ _).mono ?_; rintro e wn ⟨rfl, rfl⟩))
    go_ret2
    exact rtnC_nil (by (repeat' (first | (with_reducible exact Below.refl _ _) | (with_reducible refine Below.alloc ?_ ?_ _) | (with_reducible refine Below.setCell ?_ ?_ _) | (with_reducible refine Below.drew ?_) | (with_reducible refine below_drewN ?_ _) | (with_reducible assumption) | (with_reducible refine below_after (by with_reducible assumption) ?_) | go_size)))
  · rw [if_pos rfl, if_pos rfl]
    cases h2 : inB n 1 100000
    · rw [if_neg (by decide), if_neg (by decide)]
      go_enter Try.func7, Try.ntmps7
      go_wp2_with (first | (go_at_call 23; refine (l10Ratio_any _ _ _ _).mono ?_; rintro e wn ⟨rfl, rfl⟩) | (go_at_call 24; refine (l01In_any _ _ _ _).mono ?_; rintro e wn ⟨rfl, rfl⟩))
      go_ret2
      exact rtnC_nil (by (repeat' (first | (with_reducible exact Below.refl _ _) | (with_reducible refine Below.alloc ?_ ?_ _) | (with_reducible refine Below.setCell ?_ ?_ _) | (with_reducible refine Below.drew ?_) | (with_reducible refine below_drewN ?_ _) | (with_reducible assumption) | (with_reducible refine below_after (by with_reducible assumption) ?_) | go_size)))
    · rw [if_pos rfl, if_pos rfl]
      obtain ⟨n1, n2⟩ := inB_iff.1 h2
      have H := Lib.hid (fun w => l10S_any p q n w h1 n1 n2)
      obtain ⟨L, hL⟩ : ∃ L, bsP p q (rcS (btK true p q) (n.toNat - 1)).1 = L := ⟨_, rfl⟩
      rw [hL] at H ⊢
      clear hL
      go_enter Try.func7, Try.ntmps7
      go_wp2_with (first | (go_at_call 23; refine (l10Ratio_any _ _ _ _).mono ?_; rintro e wn ⟨rfl, rfl⟩) | (go_at_call 24; refine (l01In_any _ _ _ _).mono ?_; rintro e wn ⟨rfl, rfl⟩) | (go_at_call 25; refine (H.out _).mono ?_; rintro e w1 ⟨v, rfl, ho, hb⟩))
      go_ret2
      exact ⟨v, rfl, ho, hb⟩
theorem impl_BestOfFirst_any (p q n : Int) (w : World) : Calls Try.prog 10 #[.int .i64 p, .int .i64 q, .int .i64 n] w (RetPC w (bsL false p q n) (bsC p q n)) := by
  obtain ⟨L, hL⟩ : ∃ L, bsL false p q n = L := ⟨_, rfl⟩
  obtain ⟨C, hC⟩ : ∃ C, bsC p q n = C := ⟨_, rfl⟩
  have H := Lib.hid (fun w => bestF_any p q n w)
  rw [hL, hC] at H ⊢
  clear hL hC
  go_enter Try.func10, Try.ntmps10
  go_wp2_with (go_at_call 22; refine (H.out _).mono ?_; rintro e w1 ⟨v, rfl, ho, hb⟩)
  go_ret2
  exact ⟨v, rfl, ho, hb⟩
theorem spec_BestOfFirst_any (p q n : Int) (w : World) : Calls Try.prog 11 #[.int .i64 p, .int .i64 q, .int .i64 n] w (RetPC w (bsL false p q n) (bsC p q n)) := by
  unfold bsL bsC
  cases h1 : rtB p q 1
  · rw [if_neg (by decide), if_neg (by decide)]
    go_enter Try.func11, Try.ntmps11
    go_wp2_with (first | (go_at_call 23; refine (l10Ratio_any _ _ _ _).mono ?_; rintro e wn ⟨rfl, rfl⟩) | (go_at_call 24; refine (l01In_any _ _ _ _).mono ?_; rintro e wn ⟨rfl, rfl⟩))
    go_ret2
    exact rtnC_nil (by (repeat' (first | (with_reducible exact Below.refl _ _) | (with_reducible refine Below.alloc ?_ ?_ _) | (with_reducible refine Below.setCell ?_ ?_ _) | (with_reducible refine Below.drew ?_) | (with_reducible refine below_drewN ?_ _) | (with_reducible assumption) | (with_reducible refine below_after (by with_reducible assumption) ?_) | go_size)))
  · rw [if_pos rfl, if_pos rfl]
    cases h2 : inB n 1 100000
    · rw [if_neg (by decide), if_neg (by decide)]
      go_enter Try.func11, Try.ntmps11
      go_wp2_with (first | (go_at_call 23; refine (l10Ratio_any _ _ _ _).mono ?_; rintro e wn ⟨rfl, rfl⟩) | (go_at_call 24; refine (l01In_any _ _ _ _).mono ?_; rintro e wn ⟨rfl, rfl⟩))
      go_ret2
      exact rtnC_nil (by (repeat' (first | (with_reducible exact Below.refl _ _) | (with_reducible refine Below.alloc ?_ ?_ _) | (with_reducible refine Below.setCell ?_ ?_ _) | (with_reducible refine Below.drew ?_) | (with_reducible refine below_drewN ?_ _) | (with_reducible assumption) | (with_reducible refine below_after (by with_reducible assumption) ?_) | go_size)))
    · rw [if_pos rfl, if_pos rfl]
      obtain ⟨n1, n2⟩ := inB_iff.1 h2
      have H := Lib.hid (fun w => l10F_any p q n w h1 n1 n2)
      obtain ⟨L, hL⟩ : ∃ L, bsP p q (rcS (btK false p q) (n.toNat - 1)).1 = L := ⟨_, rfl⟩
      rw [hL] at H ⊢
      clear hL
      go_enter Try.func11, Try.ntmps11
      go_wp2_with (first | (go_at_call 23; refine (l10Ratio_any _ _ _ _).mono ?_; rintro e wn ⟨rfl, rfl⟩) | (go_at_call 24; refine (l01In_any _ _ _ _).mono ?_; rintro e wn ⟨rfl, rfl⟩) | (go_at_call 25; refine (H.out _).mono ?_; rintro e w1 ⟨v, rfl, ho, hb⟩))
      go_ret2
      exact ⟨v, rfl, ho, hb⟩
theorem rcS_end {bt : Int → Int → Bool} : ∀ n : Nat, (rcS bt n).1.getD ((rcS bt n).1.length - 1) 0 = (rcS bt n).2
  | 0 => rfl
  | n + 1 => by
    have ih := rcS_end (bt := bt) n
    cases h : bt ((n : Int) + 2) (rcS bt n).2 with
    | true => rw [rcS_yes h]; simp
    | false => rw [rcS_no h]; exact ih
def nfU (p q n : Int) : Int := (rcS (btK false p q) (n.toNat - 1)).2
def nfX (p q n : Int) : Int := if rtB p q 1 = true then (if inB n 1 100000 = true then nrP (nfU p q n * p) q else 0) else 0
def nfY (p q n : Int) : Int := if rtB p q 1 = true then (if inB n 1 100000 = true then nfU p q n else 0) else 0
theorem nf_last (p q n : Int) : (bsP p q (rcS (btK false p q) (n.toNat - 1)).1).getD ((bsP p q (rcS (btK false p q) (n.toNat - 1)).1).length - 1) (0, 0) = (nrP (nfU p q n * p) q, nfU p q n) := by
  have h := rcS_end (bt := btK false p q) (n.toNat - 1)
  have hl := (rcS_len (bt := btK false p q) (n.toNat - 1)).1
  unfold nfU
  rw [← h]
  generalize (rcS (btK false p q) (n.toNat - 1)).1 = L at hl ⊢
  rw [bsP_len]
  unfold bsP
  rw [List.getD_eq_getElem?_getD, List.getElem?_map, List.getD_eq_getElem?_getD, List.getElem?_eq_getElem (by omega)]
  rfl
set_option maxHeartbeats 1600000 in
theorem impl_NearestFraction_any (p q n : Int) (w : World) : Calls Try.prog 13 #[.int .i64 p, .int .i64 q, .int .i64 n] w fun e w' => e = .returned (.tuple #[.agg #[.int .i64 (nfX p q n), .int .i64 (nfY p q n)], .int .i64 (bsC p q n)]) ∧ Below w.heap.size w w' := by
  unfold nfX nfY bsC
  cases h1 : rtB p q 1
  · rw [if_neg (by decide), if_neg (by decide), if_neg (by decide)]
    have H : Hid (∀ w, Calls Try.prog 10 #[.int .i64 p, .int .i64 q, .int .i64 n] w (RetPC w [] 2)) := fun w => by
      have := impl_BestOfFirst_any p q n w
      unfold bsL bsC at this
      simpa [h1] using this
    go_enter Try.func13, Try.ntmps13
    go_wp2_with (go_at_call 10; refine (H.out _).mono ?_; rintro e w1 ⟨v, rfl, ho, hb⟩; have hsz := hb.size; (try simp only [World.size_alloc] at hsz); have c0 : w1.cell? ⟨w.heap.size, 0, none⟩ = some (.int .i64 0) := (hb.cell (p := ⟨w.heap.size, 0, none⟩) (by simp)).trans (by go_cell); have c1 : w1.cell? ⟨w.heap.size, 1, none⟩ = some (.int .i64 0) := (hb.cell (p := ⟨w.heap.size, 1, none⟩) (by simp)).trans (by go_cell); have f0 : w1.frozen? ⟨w.heap.size, 0, none⟩ = false := (hb.frozen (p := ⟨w.heap.size, 0, none⟩) (by simp)).trans (by go_cell); have f1 : w1.frozen? ⟨w.heap.size, 1, none⟩ = false := (hb.frozen (p := ⟨w.heap.size, 1, none⟩) (by simp)).trans (by go_cell))
    refine bodyPost_ret (v := .tuple #[.agg #[.int .i64 0, .int .i64 0], .int .i64 2]) (by simp (maxDischargeDepth := 8) [results, Try.results13, go_sem, *]) rfl ?_
    have hb1 : Below w.heap.size w w1 := by (repeat' (first | (with_reducible exact Below.refl _ _) | (with_reducible refine Below.alloc ?_ ?_ _) | (with_reducible refine Below.setCell ?_ ?_ _) | (with_reducible refine Below.drew ?_) | (with_reducible refine below_drewN ?_ _) | (with_reducible assumption) | (with_reducible refine below_after (by with_reducible assumption) ?_) | go_size))
    exact ⟨rfl, by (repeat' (first | (with_reducible exact Below.refl _ _) | (with_reducible refine Below.alloc ?_ ?_ _) | (with_reducible refine Below.setCell ?_ ?_ _) | (with_reducible refine Below.drew ?_) | (with_reducible refine below_drewN ?_ _) | (with_reducible assumption) | (with_reducible refine below_after (by with_reducible assumption) ?_) | go_size))⟩
  · rw [if_pos rfl, if_pos rfl, if_pos rfl]
    cases h2 : inB n 1 100000
    · rw [if_neg (by decide), if_neg (by decide), if_neg (by decide)]
      have H : Hid (∀ w, Calls Try.prog 10 #[.int .i64 p, .int .i64 q, .int .i64 n] w (RetPC w [] 2)) := fun w => by
        have := impl_BestOfFirst_any p q n w
        unfold bsL bsC at this
        simpa [h1, h2] using this
      go_enter Try.func13, Try.ntmps13
      go_wp2_with (go_at_call 10; refine (H.out _).mono ?_; rintro e w1 ⟨v, rfl, ho, hb⟩; have hsz := hb.size; (try simp only [World.size_alloc] at hsz); have c0 : w1.cell? ⟨w.heap.size, 0, none⟩ = some (.int .i64 0) := (hb.cell (p := ⟨w.heap.size, 0, none⟩) (by simp)).trans (by go_cell); have c1 : w1.cell? ⟨w.heap.size, 1, none⟩ = some (.int .i64 0) := (hb.cell (p := ⟨w.heap.size, 1, none⟩) (by simp)).trans (by go_cell); have f0 : w1.frozen? ⟨w.heap.size, 0, none⟩ = false := (hb.frozen (p := ⟨w.heap.size, 0, none⟩) (by simp)).trans (by go_cell); have f1 : w1.frozen? ⟨w.heap.size, 1, none⟩ = false := (hb.frozen (p := ⟨w.heap.size, 1, none⟩) (by simp)).trans (by go_cell))
      refine bodyPost_ret (v := .tuple #[.agg #[.int .i64 0, .int .i64 0], .int .i64 2]) (by simp (maxDischargeDepth := 8) [results, Try.results13, go_sem, *]) rfl ?_
      have hb1 : Below w.heap.size w w1 := by (repeat' (first | (with_reducible exact Below.refl _ _) | (with_reducible refine Below.alloc ?_ ?_ _) | (with_reducible refine Below.setCell ?_ ?_ _) | (with_reducible refine Below.drew ?_) | (with_reducible refine below_drewN ?_ _) | (with_reducible assumption) | (with_reducible refine below_after (by with_reducible assumption) ?_) | go_size))
      exact ⟨rfl, by (repeat' (first | (with_reducible exact Below.refl _ _) | (with_reducible refine Below.alloc ?_ ?_ _) | (with_reducible refine Below.setCell ?_ ?_ _) | (with_reducible refine Below.drew ?_) | (with_reducible refine below_drewN ?_ _) | (with_reducible assumption) | (with_reducible refine below_after (by with_reducible assumption) ?_) | go_size))⟩
    · rw [if_pos rfl, if_pos rfl, if_pos rfl]
      obtain ⟨n1, n2⟩ := inB_iff.1 h2
      have H : Hid (∀ w, Calls Try.prog 10 #[.int .i64 p, .int .i64 q, .int .i64 n] w (RetPC w (bsP p q (rcS (btK false p q) (n.toNat - 1)).1) 0)) := fun w => by
        have := impl_BestOfFirst_any p q n w
        unfold bsL bsC at this
        simpa [h1, h2] using this
      have hlast := nf_last p q n
      have hlen := rcS_len (bt := btK false p q) (n.toNat - 1)
      rw [← bsP_len p q] at hlen
      obtain ⟨L, hL⟩ : ∃ L, bsP p q (rcS (btK false p q) (n.toNat - 1)).1 = L := ⟨_, rfl⟩
      obtain ⟨X, hX⟩ : ∃ X, nrP (nfU p q n * p) q = X := ⟨_, rfl⟩
      obtain ⟨Y, hY⟩ : ∃ X, nfU p q n = X := ⟨_, rfl⟩
      rw [hL] at H hlast hlen
      rw [hX, hY] at hlast
      rw [hX, hY]
      clear hL hX hY
      obtain ⟨j, hj⟩ : ∃ j, L.length = j + 1 := ⟨L.length - 1, by omega⟩
      have hj2 : j ≤ 100000 := by omega
      rw [hj] at hlast hlen
      have e0 : j + 1 - 1 = j := by omega
      rw [e0] at hlast
      have HJ := Lib.hid hj
      have HLT := Lib.hid hlast
      clear hj hlast hlen e0
      have i1 : ((j + 1 : Nat) : Int) - 1 = (j : Int) := by omega
      go_enter Try.func13, Try.ntmps13
      go_wp2_with fail
      go_at_call 10; refine (H.out _).mono ?_; rintro e w1 ⟨v, rfl, ho, hb⟩
      have hsz := hb.size
      (try simp only [World.size_alloc] at hsz)
      have c0 : w1.cell? ⟨w.heap.size, 0, none⟩ = some (.int .i64 0) := (hb.cell (p := ⟨w.heap.size, 0, none⟩) (by simp)).trans (by go_cell)
      have c1 : w1.cell? ⟨w.heap.size, 1, none⟩ = some (.int .i64 0) := (hb.cell (p := ⟨w.heap.size, 1, none⟩) (by simp)).trans (by go_cell)
      have f0 : w1.frozen? ⟨w.heap.size, 0, none⟩ = false := (hb.frozen (p := ⟨w.heap.size, 0, none⟩) (by simp)).trans (by go_cell)
      have f1 : w1.frozen? ⟨w.heap.size, 1, none⟩ = false := (hb.frozen (p := ⟨w.heap.size, 1, none⟩) (by simp)).trans (by go_cell)
      have hlw : w.heap.size < w1.heap.size := by omega
      obtain ⟨a, cap, rfl, f⟩ := own_viewF ho
      rw [HJ.out] at f ⊢
      obtain ⟨g, rfl, hBg, hg, hc, _⟩ := f (by omega)
      (try simp only [World.size_alloc] at hBg)
      have q0 := hc (j * 2) (by omega)
      have q1 := hc (j * 2 + 1) (by omega)
      have gd := flat_getD L j
      rw [gd.1, HLT.out] at q0
      rw [gd.2, HLT.out] at q1
      dsimp only at q0 q1
      have hb1 : Below w.heap.size w w1 := by (repeat' (first | (with_reducible exact Below.refl _ _) | (with_reducible refine Below.alloc ?_ ?_ _) | (with_reducible refine Below.setCell ?_ ?_ _) | (with_reducible refine Below.drew ?_) | (with_reducible refine below_drewN ?_ _) | (with_reducible assumption) | (with_reducible refine below_after (by with_reducible assumption) ?_) | go_size))
      have j1 : (0 : Int) ≤ (j : Int) := by omega
      have j2 : (j : Int) < ((j + 1 : Nat) : Int) := by omega
      have hgw : w.heap.size ≠ g := by omega
      clear ho f hc gd hb
      go_wp2_with fail
      refine bodyPost_ret (v := .tuple #[.agg #[.int .i64 X, .int .i64 Y], .int .i64 0]) (by simp (maxDischargeDepth := 8) [results, Try.results13, go_sem, *]) rfl ?_
      exact ⟨rfl, by (repeat' (first | (with_reducible exact Below.refl _ _) | (with_reducible refine Below.alloc ?_ ?_ _) | (with_reducible refine Below.setCell ?_ ?_ _) | (with_reducible refine Below.drew ?_) | (with_reducible refine below_drewN ?_ _) | (with_reducible assumption) | (with_reducible refine below_after (by with_reducible assumption) ?_) | go_size))⟩
set_option maxHeartbeats 1600000 in
theorem spec_NearestFraction_any (p q n : Int) (w : World) : Calls Try.prog 14 #[.int .i64 p, .int .i64 q, .int .i64 n] w fun e w' => e = .returned (.tuple #[.agg #[.int .i64 (nfX p q n), .int .i64 (nfY p q n)], .int .i64 (bsC p q n)]) ∧ Below w.heap.size w w' := by
  unfold nfX nfY bsC
  cases h1 : rtB p q 1
  · rw [if_neg (by decide), if_neg (by decide), if_neg (by decide)]
    go_enter Try.func14, Try.ntmps14
    go_wp2_with (first | (go_at_call 23; refine (l10Ratio_any _ _ _ _).mono ?_; rintro e wn ⟨rfl, rfl⟩) | (go_at_call 24; refine (l01In_any _ _ _ _).mono ?_; rintro e wn ⟨rfl, rfl⟩))
    refine bodyPost_ret (v := .tuple #[.agg #[.int .i64 0, .int .i64 0], .int .i64 2]) (by simp (maxDischargeDepth := 8) [results, Try.results14, go_sem, *]) rfl ?_
    exact ⟨rfl, by (repeat' (first | (with_reducible exact Below.refl _ _) | (with_reducible refine Below.alloc ?_ ?_ _) | (with_reducible refine Below.setCell ?_ ?_ _) | (with_reducible refine Below.drew ?_) | (with_reducible refine below_drewN ?_ _) | (with_reducible assumption) | (with_reducible refine below_after (by with_reducible assumption) ?_) | go_size))⟩
  · rw [if_pos rfl, if_pos rfl, if_pos rfl]
    cases h2 : inB n 1 100000
    · rw [if_neg (by decide), if_neg (by decide), if_neg (by decide)]
      go_enter Try.func14, Try.ntmps14
      go_wp2_with (first | (go_at_call 23; refine (l10Ratio_any _ _ _ _).mono ?_; rintro e wn ⟨rfl, rfl⟩) | (go_at_call 24; refine (l01In_any _ _ _ _).mono ?_; rintro e wn ⟨rfl, rfl⟩))
      refine bodyPost_ret (v := .tuple #[.agg #[.int .i64 0, .int .i64 0], .int .i64 2]) (by simp (maxDischargeDepth := 8) [results, Try.results14, go_sem, *]) rfl ?_
      exact ⟨rfl, by (repeat' (first | (with_reducible exact Below.refl _ _) | (with_reducible refine Below.alloc ?_ ?_ _) | (with_reducible refine Below.setCell ?_ ?_ _) | (with_reducible refine Below.drew ?_) | (with_reducible refine below_drewN ?_ _) | (with_reducible assumption) | (with_reducible refine below_after (by with_reducible assumption) ?_) | go_size))⟩
    · rw [if_pos rfl, if_pos rfl, if_pos rfl]
      obtain ⟨n1, n2⟩ := inB_iff.1 h2
      have H := Lib.hid (fun w => l10F_any p q n w h1 n1 n2)
      have hlast := nf_last p q n
      have hlen := rcS_len (bt := btK false p q) (n.toNat - 1)
      rw [← bsP_len p q] at hlen
      obtain ⟨L, hL⟩ : ∃ L, bsP p q (rcS (btK false p q) (n.toNat - 1)).1 = L := ⟨_, rfl⟩
      obtain ⟨X, hX⟩ : ∃ X, nrP (nfU p q n * p) q = X := ⟨_, rfl⟩
      obtain ⟨Y, hY⟩ : ∃ X, nfU p q n = X := ⟨_, rfl⟩
      rw [hL] at H hlast hlen
      rw [hX, hY] at hlast
      rw [hX, hY]
      clear hL hX hY
      obtain ⟨j, hj⟩ : ∃ j, L.length = j + 1 := ⟨L.length - 1, by omega⟩
      have hj2 : j ≤ 100000 := by omega
      rw [hj] at hlast hlen
      have e0 : j + 1 - 1 = j := by omega
      rw [e0] at hlast
      have HJ := Lib.hid hj
      have HLT := Lib.hid hlast
      clear hj hlast hlen e0
      have i1 : ((j + 1 : Nat) : Int) - 1 = (j : Int) := by omega
      go_enter Try.func14, Try.ntmps14
      go_wp2_with (first | (go_at_call 23; refine (l10Ratio_any _ _ _ _).mono ?_; rintro e wn ⟨rfl, rfl⟩) | (go_at_call 24; refine (l01In_any _ _ _ _).mono ?_; rintro e wn ⟨rfl, rfl⟩))
      go_at_call 25; refine (H.out _).mono ?_; rintro e w1 ⟨v, rfl, ho, hb⟩
      have hsz := hb.size
      (try simp only [World.size_alloc] at hsz)
      have c0 : w1.cell? ⟨w.heap.size, 0, none⟩ = some (.int .i64 0) := (hb.cell (p := ⟨w.heap.size, 0, none⟩) (by simp)).trans (by go_cell)
      have c1 : w1.cell? ⟨w.heap.size, 1, none⟩ = some (.int .i64 0) := (hb.cell (p := ⟨w.heap.size, 1, none⟩) (by simp)).trans (by go_cell)
      have f0 : w1.frozen? ⟨w.heap.size, 0, none⟩ = false := (hb.frozen (p := ⟨w.heap.size, 0, none⟩) (by simp)).trans (by go_cell)
      have f1 : w1.frozen? ⟨w.heap.size, 1, none⟩ = false := (hb.frozen (p := ⟨w.heap.size, 1, none⟩) (by simp)).trans (by go_cell)
      have hlw : w.heap.size < w1.heap.size := by omega
      obtain ⟨a, cap, rfl, f⟩ := own_viewF ho
      rw [HJ.out] at f ⊢
      obtain ⟨g, rfl, hBg, hg, hc, _⟩ := f (by omega)
      (try simp only [World.size_alloc] at hBg)
      have q0 := hc (j * 2) (by omega)
      have q1 := hc (j * 2 + 1) (by omega)
      have gd := flat_getD L j
      rw [gd.1, HLT.out] at q0
      rw [gd.2, HLT.out] at q1
      dsimp only at q0 q1
      have hb1 : Below w.heap.size w w1 := by (repeat' (first | (with_reducible exact Below.refl _ _) | (with_reducible refine Below.alloc ?_ ?_ _) | (with_reducible refine Below.setCell ?_ ?_ _) | (with_reducible refine Below.drew ?_) | (with_reducible refine below_drewN ?_ _) | (with_reducible assumption) | (with_reducible refine below_after (by with_reducible assumption) ?_) | go_size))
      have j1 : (0 : Int) ≤ (j : Int) := by omega
      have j2 : (j : Int) < ((j + 1 : Nat) : Int) := by omega
      have hgw : w.heap.size ≠ g := by omega
      clear ho f hc gd hb
      go_wp2_with fail
      refine bodyPost_ret (v := .tuple #[.agg #[.int .i64 X, .int .i64 Y], .int .i64 0]) (by simp (maxDischargeDepth := 8) [results, Try.results14, go_sem, *]) rfl ?_
      exact ⟨rfl, by (repeat' (first | (with_reducible exact Below.refl _ _) | (with_reducible refine Below.alloc ?_ ?_ _) | (with_reducible refine Below.setCell ?_ ?_ _) | (with_reducible refine Below.drew ?_) | (with_reducible refine below_drewN ?_ _) | (with_reducible assumption) | (with_reducible refine below_after (by with_reducible assumption) ?_) | go_size))⟩
end Go.Proofs.Ytibmkmcdggokbaa
