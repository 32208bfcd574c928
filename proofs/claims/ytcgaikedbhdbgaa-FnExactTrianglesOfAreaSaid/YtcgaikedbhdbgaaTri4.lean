/-
  Shapes of triangles, in the program and in the model (own work).
-/
import Derived.Test.YtcgaikedbhdbgaaTri3
import Derived.Test.YtcgaikedbhdbgaaBlk
import Derived.Deep.RegionWith
namespace Go.Proofs.Ytcgaikedbhdbgaa
open Go.ChangeShapes Go.WideShapes Go.ChangeAt Go.RowKit
set_option linter.unusedVariables false
set_option maxRecDepth 100000
set_option linter.unusedSimpArgs false
set_option maxRecDepth 100000

theorem primP_ok {a b : Int} (k : isPt (a, b) = true) (hne : (a == 0 && b == 0) = false) : isPt (primP (a, b)) = true ∧ gcdI (primP (a, b)).1 (primP (a, b)).2 = 1 := by
  have hg := gcd_ne hne
  have ca := isPt_c1 k
  have cb := isPt_c2 k
  have da : (Int.gcd a b : Int) ∣ a := Int.gcd_dvd_left a b
  have db : (Int.gcd a b : Int) ∣ b := Int.gcd_dvd_right a b
  have hn : Int.gcd a b ≠ 0 := by unfold gcdI at hg; omega
  have qa : a.tdiv (gcdI a b) = a / (gcdI a b) := by unfold gcdI; rw [Int.tdiv_eq_ediv_of_dvd da]
  have qb : b.tdiv (gcdI a b) = b / (gcdI a b) := by unfold gcdI; rw [Int.tdiv_eq_ediv_of_dvd db]
  have na : (a.tdiv (gcdI a b)).natAbs ≤ a.natAbs := by rw [Int.natAbs_tdiv]; exact Nat.div_le_self _ _
  have nb : (b.tdiv (gcdI a b)).natAbs ≤ b.natAbs := by rw [Int.natAbs_tdiv]; exact Nat.div_le_self _ _
  have wa : IntKind.i64.wrap (a.tdiv (gcdI a b)) = a.tdiv (gcdI a b) := by rw [IntKind.wrap_i64]; omega
  have wb : IntKind.i64.wrap (b.tdiv (gcdI a b)) = b.tdiv (gcdI a b) := by rw [IntKind.wrap_i64]; omega
  have e : primP (a, b) = (a.tdiv (gcdI a b), b.tdiv (gcdI a b)) := by
    unfold primP
    dsimp only
    rw [wa, wb]
  rw [e]
  refine ⟨?_, ?_⟩
  · unfold isPt
    rw [Bool.and_eq_true]
    exact ⟨crd_iff.2 ⟨by dsimp only; omega, by dsimp only; omega⟩, crd_iff.2 ⟨by dsimp only; omega, by dsimp only; omega⟩⟩
  · dsimp only
    rw [qa, qb]
    unfold gcdI
    rw [Int.gcd_ediv_gcd_ediv_gcd (Nat.pos_of_ne_zero hn)]
    rfl
theorem len_pos {a b c d : Int} (hne : (c - a == 0 && d - b == 0) = false) : 1 ≤ lenP (a, b) (c, d) := by
  have hg := gcd_ne hne
  unfold lenP gcdI at *
  dsimp only at *
  omega
theorem len_dvd (x0 y0 x1 y1 x2 y2 : Int) : lenP (x0, y0) (x1, y1) ∣ areaP (x0, y0) (x1, y1) (x2, y2) := by
  have d1 : lenP (x0, y0) (x1, y1) ∣ x1 - x0 := Int.gcd_dvd_left _ _
  have d2 : lenP (x0, y0) (x1, y1) ∣ y1 - y0 := Int.gcd_dvd_right _ _
  have d3 : lenP (x0, y0) (x1, y1) ∣ detP (x1 - x0, y1 - y0) (x2 - x0, y2 - y0) := by
    unfold detP
    exact Int.dvd_sub (Int.dvd_trans d1 (Int.dvd_mul_right _ _)) (Int.dvd_trans d2 (Int.dvd_mul_right _ _))
  unfold areaP absI
  dsimp only
  exact Int.dvd_natAbs.2 d3
/-- The shape for the order 0, 1, 2. -/
def hgt (x0 y0 x1 y1 x2 y2 : Int) : Int := (areaP (x0, y0) (x1, y1) (x2, y2)).tdiv (lenP (x0, y0) (x1, y1))
def plc (x0 y0 x1 y1 x2 y2 : Int) : Int := detP (x2 - x0, y2 - y0) (mateI (primP (x1 - x0, y1 - y0)).1 (primP (x1 - x0, y1 - y0)).2) % hgt x0 y0 x1 y1 x2 y2
theorem hgt_bd {x0 y0 x1 y1 x2 y2 : Int} (h : isT x0 y0 x1 y1 x2 y2 = true) : 1 ≤ hgt x0 y0 x1 y1 x2 y2 ∧ hgt x0 y0 x1 y1 x2 y2 ≤ 8000000 ∧ lenP (x0, y0) (x1, y1) * hgt x0 y0 x1 y1 x2 y2 = areaP (x0, y0) (x1, y1) (x2, y2) := by
  obtain ⟨a1, a2⟩ := ar_small h
  have l1 := len_pos (tri_ne h)
  have dv := len_dvd x0 y0 x1 y1 x2 y2
  have e : hgt x0 y0 x1 y1 x2 y2 = areaP (x0, y0) (x1, y1) (x2, y2) / lenP (x0, y0) (x1, y1) := by unfold hgt; rw [Int.tdiv_eq_ediv_of_dvd dv]
  have m := Int.mul_ediv_cancel' dv
  rw [← e] at m
  refine ⟨?_, ?_, m⟩
  · apply Int.not_lt.1
    intro hlt
    have : lenP (x0, y0) (x1, y1) * hgt x0 y0 x1 y1 x2 y2 ≤ 0 := Int.mul_nonpos_of_nonneg_of_nonpos (by omega) (by omega)
    omega
  · rw [e]
    exact Int.le_trans (Int.ediv_le_self _ (by omega)) a2
theorem plc_bd {x0 y0 x1 y1 x2 y2 : Int} (h : isT x0 y0 x1 y1 x2 y2 = true) : 0 ≤ plc x0 y0 x1 y1 x2 y2 ∧ plc x0 y0 x1 y1 x2 y2 < hgt x0 y0 x1 y1 x2 y2 := by
  obtain ⟨a1, a2, _⟩ := hgt_bd h
  exact ⟨Int.emod_nonneg _ (by omega), Int.emod_lt_of_pos _ (by omega)⟩
theorem side_ok {x0 y0 x1 y1 x2 y2 : Int} (h : isT x0 y0 x1 y1 x2 y2 = true) : isPt (primP (x1 - x0, y1 - y0)) = true ∧ gcdI (primP (x1 - x0, y1 - y0)).1 (primP (x1 - x0, y1 - y0)).2 = 1 := by
  obtain ⟨s0, s1, s2, s3, s4, s5, _⟩ := isT_iff.1 h
  exact primP_ok (sub_pt s0 s1 s2 s3) (tri_ne h)
theorem mate_bd {x0 y0 x1 y1 x2 y2 : Int} (h : isT x0 y0 x1 y1 x2 y2 = true) : isPt (mateI (primP (x1 - x0, y1 - y0)).1 (primP (x1 - x0, y1 - y0)).2) = true := by
  obtain ⟨k1, k2⟩ := side_ok h
  exact (mateI_ok k1 k2).2
theorem pdet_bd {x0 y0 x1 y1 x2 y2 : Int} (h : isT x0 y0 x1 y1 x2 y2 = true) : -1000000000000000 ≤ detP (x2 - x0, y2 - y0) (mateI (primP (x1 - x0, y1 - y0)).1 (primP (x1 - x0, y1 - y0)).2) ∧ detP (x2 - x0, y2 - y0) (mateI (primP (x1 - x0, y1 - y0)).1 (primP (x1 - x0, y1 - y0)).2) ≤ 1000000000000000 := by
  obtain ⟨s0, s1, s2, s3, s4, s5, _⟩ := isT_iff.1 h
  have hm := mate_bd h
  have q1 := s4.sub s0
  have q2 := s5.sub s1
  obtain ⟨⟨m, n⟩, hmm⟩ : ∃ m, mateI (primP (x1 - x0, y1 - y0)).1 (primP (x1 - x0, y1 - y0)).2 = m := ⟨_, rfl⟩
  rw [hmm] at hm ⊢
  have m1 := isPt_c1 hm
  have m2 := isPt_c2 hm
  unfold detP
  dsimp only
  clear hm hmm
  have p1 := mul_bd (A := 2000) (B := 1000000) (a := x2 - x0) (b := n) (by omega) (by omega) (by omega) (by omega)
  have p2 := mul_bd (A := 2000) (B := 1000000) (a := y2 - y0) (b := m) (by omega) (by omega) (by omega) (by omega)
  omega
theorem bk6_at {W : World} {g : Nat} {a b c d e f : Int} (h : Bk6 W g a b c d e f) (m : Nat) (hm : m < 3) : W.cell? ⟨g, m * 2, none⟩ = some (.int .i64 (V3 a c e m)) ∧ W.cell? ⟨g, m * 2 + 1, none⟩ = some (.int .i64 (V3 b d f m)) := by
  obtain ⟨⟨h0, h1, h2, h3, h4, h5⟩, _, _⟩ := h
  have hc : m = 0 ∨ m = 1 ∨ m = 2 := by omega
  rcases hc with rfl | rfl | rfl
  · exact ⟨h0, h1⟩
  · exact ⟨h2, h3⟩
  · exact ⟨h4, h5⟩
theorem fdC0 (v0 v1 v2 v3 : Value) (W : World) : (Instr.field 38 (.agg #[v0, v1, v2, v3]) 0).run Try.prog W = .ok (.agg #[v0, v1]) W := by kernel_rfl
set_option maxHeartbeats 4000000 in
theorem shapeInOrder_abs (x0 y0 x1 y1 x2 y2 L A H P1 P2 Q1 Q2 M1 M2 U V D F R : Int) (w : World)
    (hL : Gives 68 #[.agg #[.int .i64 x0, .int .i64 y0], .agg #[.int .i64 x1, .int .i64 y1]] (.int .i64 L))
    (hA : Gives 65 #[.agg #[.int .i64 x0, .int .i64 y0], .agg #[.int .i64 x1, .int .i64 y1], .agg #[.int .i64 x2, .int .i64 y2]] (.int .i64 A))
    (hq : A.tdiv L = H) (hL0 : ¬ L = 0) (hwH : IntKind.i64.wrap H = H)
    (hC : Gives 77 #[.agg #[.int .i64 x0, .int .i64 y0, .int .i64 x1, .int .i64 y1, .int .i64 x2, .int .i64 y2]] (.agg #[.int .i64 P1, .int .i64 P2, .int .i64 Q1, .int .i64 Q2]))
    (hM : Gives 103 #[.agg #[.int .i64 P1, .int .i64 P2]] (.tuple #[.agg #[.int .i64 M1, .int .i64 M2], .int .i64 0]))
    (hS : Gives 96 #[.agg #[.int .i64 x0, .int .i64 y0], .agg #[.int .i64 x2, .int .i64 y2]] (.agg #[.int .i64 U, .int .i64 V]))
    (hD : Gives 81 #[.agg #[.int .i64 U, .int .i64 V], .agg #[.int .i64 M1, .int .i64 M2]] (.int .i64 D))
    (hR : Gives 104 #[.int .i64 D, .int .i64 H] (.tuple #[.int .i64 F, .int .i64 R])) :
    Calls Try.prog 83 #[.agg #[.int .i64 x0, .int .i64 y0, .int .i64 x1, .int .i64 y1, .int .i64 x2, .int .i64 y2]] w fun e w' => e = .returned (.agg #[.int .i64 L, .int .i64 R, .int .i64 H]) ∧ Below w.heap.size w w' := by
  have HL := Lib.hid hL
  have HA := Lib.hid hA
  have HC := Lib.hid hC
  have HM := Lib.hid hM
  have HS := Lib.hid hS
  have HD := Lib.hid hD
  have HR := Lib.hid hR
  clear hL hA hC hM hS hD hR
  have fc := fdC0
  have hs20 : w.heap.size < w.heap.size + 1 + 1 := (by omega); have hs30 : w.heap.size < w.heap.size + 1 + 1 + 1 := (by omega); have hs31 : w.heap.size + 1 < w.heap.size + 1 + 1 + 1 := (by omega); have hs40 : w.heap.size < w.heap.size + 1 + 1 + 1 + 1 := (by omega); have hs41 : w.heap.size + 1 < w.heap.size + 1 + 1 + 1 + 1 := (by omega); have hs42 : w.heap.size + 1 + 1 < w.heap.size + 1 + 1 + 1 + 1 := (by omega); have hs50 : w.heap.size < w.heap.size + 1 + 1 + 1 + 1 + 1 := (by omega); have hs51 : w.heap.size + 1 < w.heap.size + 1 + 1 + 1 + 1 + 1 := (by omega); have hs52 : w.heap.size + 1 + 1 < w.heap.size + 1 + 1 + 1 + 1 + 1 := (by omega); have hs53 : w.heap.size + 1 + 1 + 1 < w.heap.size + 1 + 1 + 1 + 1 + 1 := (by omega)
  go_enter Try.func83, Try.ntmps83
  go_upto_region 4 with (first | (go_at_call 68; refine (HL.out _).mono ?_; rintro e wn ⟨rfl, hb⟩; first | (have h2 := after_call2 hb hcl hfr hlt (by ((repeat' (first | (with_reducible exact Below.refl _ _) | (with_reducible refine Below.alloc ?_ ?_ _) | (with_reducible refine Below.setCell ?_ ?_ _) | (with_reducible refine Below.drew ?_) | (with_reducible refine below_drewN ?_ _) | (with_reducible assumption) | (with_reducible refine below_after (by with_reducible assumption) ?_) | go_size)); done)); obtain ⟨hclx, hfrx, hltx, hsz⟩ := after_call hb; (try simp only [World.size_alloc, World.size_setCell, World.size_drew] at hclx hfrx hltx hsz); (try (have hszl := Nat.lt_of_succ_le hsz)); obtain ⟨hcl, hfr, hlt⟩ := h2) | (obtain ⟨hcl, hfr, hlt, hsz⟩ := after_call hb; (try simp only [World.size_alloc, World.size_setCell, World.size_drew] at hcl hfr hlt hsz))) | (go_at_call 65; refine (HA.out _).mono ?_; rintro e wn ⟨rfl, hb⟩; first | (have h2 := after_call2 hb hcl hfr hlt (by ((repeat' (first | (with_reducible exact Below.refl _ _) | (with_reducible refine Below.alloc ?_ ?_ _) | (with_reducible refine Below.setCell ?_ ?_ _) | (with_reducible refine Below.drew ?_) | (with_reducible refine below_drewN ?_ _) | (with_reducible assumption) | (with_reducible refine below_after (by with_reducible assumption) ?_) | go_size)); done)); obtain ⟨hclx, hfrx, hltx, hsz⟩ := after_call hb; (try simp only [World.size_alloc, World.size_setCell, World.size_drew] at hclx hfrx hltx hsz); (try (have hszl := Nat.lt_of_succ_le hsz)); obtain ⟨hcl, hfr, hlt⟩ := h2) | (obtain ⟨hcl, hfr, hlt, hsz⟩ := after_call hb; (try simp only [World.size_alloc, World.size_setCell, World.size_drew] at hcl hfr hlt hsz))) | (go_at_call 77; refine (HC.out _).mono ?_; rintro e wn ⟨rfl, hb⟩; first | (have h2 := after_call2 hb hcl hfr hlt (by ((repeat' (first | (with_reducible exact Below.refl _ _) | (with_reducible refine Below.alloc ?_ ?_ _) | (with_reducible refine Below.setCell ?_ ?_ _) | (with_reducible refine Below.drew ?_) | (with_reducible refine below_drewN ?_ _) | (with_reducible assumption) | (with_reducible refine below_after (by with_reducible assumption) ?_) | go_size)); done)); obtain ⟨hclx, hfrx, hltx, hsz⟩ := after_call hb; (try simp only [World.size_alloc, World.size_setCell, World.size_drew] at hclx hfrx hltx hsz); (try (have hszl := Nat.lt_of_succ_le hsz)); obtain ⟨hcl, hfr, hlt⟩ := h2) | (obtain ⟨hcl, hfr, hlt, hsz⟩ := after_call hb; (try simp only [World.size_alloc, World.size_setCell, World.size_drew] at hcl hfr hlt hsz))) | (go_at_call 103; refine (HM.out _).mono ?_; rintro e wn ⟨rfl, hb⟩; first | (have h2 := after_call2 hb hcl hfr hlt (by ((repeat' (first | (with_reducible exact Below.refl _ _) | (with_reducible refine Below.alloc ?_ ?_ _) | (with_reducible refine Below.setCell ?_ ?_ _) | (with_reducible refine Below.drew ?_) | (with_reducible refine below_drewN ?_ _) | (with_reducible assumption) | (with_reducible refine below_after (by with_reducible assumption) ?_) | go_size)); done)); obtain ⟨hclx, hfrx, hltx, hsz⟩ := after_call hb; (try simp only [World.size_alloc, World.size_setCell, World.size_drew] at hclx hfrx hltx hsz); (try (have hszl := Nat.lt_of_succ_le hsz)); obtain ⟨hcl, hfr, hlt⟩ := h2) | (obtain ⟨hcl, hfr, hlt, hsz⟩ := after_call hb; (try simp only [World.size_alloc, World.size_setCell, World.size_drew] at hcl hfr hlt hsz))))
  go_region_held3 (fun W => W.cell? ⟨w.heap.size, 0, none⟩ = some (.int .i64 x0) ∧ W.cell? ⟨w.heap.size, 1, none⟩ = some (.int .i64 y0) ∧ W.cell? ⟨w.heap.size, 2, none⟩ = some (.int .i64 x1) ∧ W.cell? ⟨w.heap.size, 3, none⟩ = some (.int .i64 y1) ∧ W.cell? ⟨w.heap.size, 4, none⟩ = some (.int .i64 x2) ∧ W.cell? ⟨w.heap.size, 5, none⟩ = some (.int .i64 y2) ∧ W.cell? ⟨wn.heap.size, 0, none⟩ = some (.int .i64 M1) ∧ W.cell? ⟨wn.heap.size, 1, none⟩ = some (.int .i64 M2) ∧ w.heap.size < W.heap.size ∧ wn.heap.size < W.heap.size) (first | (go_keep; done) | ((repeat' apply And.intro) <;> first | (go_keep; done) | (go_cell; done) | (refine (Below.cell (B := w.heap.size + 1 + 1) ?_ ?_).trans ?_; focus (repeat' (first | (with_reducible refine Below.alloc ?_ ?_ _) | (with_reducible refine Below.setCell ?_ ?_ _) | (with_reducible refine Below.drew ?_) | (with_reducible exact Below.refl _ _) | (first | omega | (simp only [World.size_alloc, World.size_drew, World.size_setCell]; omega) | (simp; omega)))); focus (first | omega | (simp only [World.size_alloc, World.size_drew, World.size_setCell]; omega) | (simp; omega)); first | (go_keep; done) | ((refine (Below.cell (by with_reducible assumption) ?_).trans ?_) <;> first | (go_keep; done) | (first | omega | (simp only [World.size_alloc, World.size_drew, World.size_setCell]; omega) | (simp; omega)))) | ((refine (Below.cell (by with_reducible assumption) ?_).trans ?_) <;> first | (go_keep; done) | (simp only [World.size_alloc, World.size_drew, World.size_setCell]; omega) | omega) | (simp only [World.size_alloc, World.size_drew, World.size_setCell]; omega) | omega)) (first | (go_at_call 96; refine (HS.out _).mono ?_; rintro e wn ⟨rfl, hb⟩; first | (have h2 := after_call2 hb hcl hfr hlt (by ((repeat' (first | (with_reducible exact Below.refl _ _) | (with_reducible refine Below.alloc ?_ ?_ _) | (with_reducible refine Below.setCell ?_ ?_ _) | (with_reducible refine Below.drew ?_) | (with_reducible refine below_drewN ?_ _) | (with_reducible assumption) | (with_reducible refine below_after (by with_reducible assumption) ?_) | go_size)); done)); obtain ⟨hclx, hfrx, hltx, hsz⟩ := after_call hb; (try simp only [World.size_alloc, World.size_setCell, World.size_drew] at hclx hfrx hltx hsz); (try (have hszl := Nat.lt_of_succ_le hsz)); obtain ⟨hcl, hfr, hlt⟩ := h2) | (obtain ⟨hcl, hfr, hlt, hsz⟩ := after_call hb; (try simp only [World.size_alloc, World.size_setCell, World.size_drew] at hcl hfr hlt hsz))) | (go_at_call 81; refine (HD.out _).mono ?_; rintro e wn ⟨rfl, hb⟩; first | (have h2 := after_call2 hb hcl hfr hlt (by ((repeat' (first | (with_reducible exact Below.refl _ _) | (with_reducible refine Below.alloc ?_ ?_ _) | (with_reducible refine Below.setCell ?_ ?_ _) | (with_reducible refine Below.drew ?_) | (with_reducible refine below_drewN ?_ _) | (with_reducible assumption) | (with_reducible refine below_after (by with_reducible assumption) ?_) | go_size)); done)); obtain ⟨hclx, hfrx, hltx, hsz⟩ := after_call hb; (try simp only [World.size_alloc, World.size_setCell, World.size_drew] at hclx hfrx hltx hsz); (try (have hszl := Nat.lt_of_succ_le hsz)); obtain ⟨hcl, hfr, hlt⟩ := h2) | (obtain ⟨hcl, hfr, hlt, hsz⟩ := after_call hb; (try simp only [World.size_alloc, World.size_setCell, World.size_drew] at hcl hfr hlt hsz))) | (go_at_call 104; refine (HR.out _).mono ?_; rintro e wn ⟨rfl, hb⟩; first | (have h2 := after_call2 hb hcl hfr hlt (by ((repeat' (first | (with_reducible exact Below.refl _ _) | (with_reducible refine Below.alloc ?_ ?_ _) | (with_reducible refine Below.setCell ?_ ?_ _) | (with_reducible refine Below.drew ?_) | (with_reducible refine below_drewN ?_ _) | (with_reducible assumption) | (with_reducible refine below_after (by with_reducible assumption) ?_) | go_size)); done)); obtain ⟨hclx, hfrx, hltx, hsz⟩ := after_call hb; (try simp only [World.size_alloc, World.size_setCell, World.size_drew] at hclx hfrx hltx hsz); (try (have hszl := Nat.lt_of_succ_le hsz)); obtain ⟨hcl, hfr, hlt⟩ := h2) | (obtain ⟨hcl, hfr, hlt, hsz⟩ := after_call hb; (try simp only [World.size_alloc, World.size_setCell, World.size_drew] at hcl hfr hlt hsz))))
  all_goals
    go_wp2
    refine bodyPost_ret (v := .agg #[.int .i64 L, .int .i64 R, .int .i64 H]) (by simp (maxDischargeDepth := 8) [results, Try.results83, go_sem, *]) rfl ?_
    exact ⟨rfl, by (repeat' (first | (with_reducible exact Below.refl _ _) | (with_reducible refine Below.alloc ?_ ?_ _) | (with_reducible refine Below.setCell ?_ ?_ _) | (with_reducible refine Below.drew ?_) | (with_reducible refine below_drewN ?_ _) | (with_reducible assumption) | (with_reducible refine below_after (by with_reducible assumption) ?_) | go_size))⟩
set_option maxHeartbeats 16000000 in
theorem l04Shape_gen (x0 y0 x1 y1 x2 y2 p0 p1 p2 p3 p4 p5 L A H P1 P2 M1 M2 D R : Int) (i j k : Nat) (w : World) (hi : i < 3) (hj : j < 3) (hk : k < 3) (hijk : i + j + k = 3) (e0 : V3 x0 x1 x2 i = p0) (e1 : V3 y0 y1 y2 i = p1) (e2 : V3 x0 x1 x2 j = p2) (e3 : V3 y0 y1 y2 j = p3) (e4 : V3 x0 x1 x2 k = p4) (e5 : V3 y0 y1 y2 k = p5)
    (hB : Bn p0 ∧ Bn p1 ∧ Bn p2 ∧ Bn p3 ∧ Bn p4 ∧ Bn p5)
    (hP : Gives 98 #[.agg #[.int .i64 (p2 - p0), .int .i64 (p3 - p1)]] (.agg #[.int .i64 (P1), .int .i64 (P2)]))
    (hL : Gives 93 #[.agg #[.int .i64 (p0), .int .i64 (p1)], .agg #[.int .i64 (p2), .int .i64 (p3)]] (.int .i64 L))
    (hA : Gives 66 #[.agg #[.int .i64 x0, .int .i64 y0, .int .i64 x1, .int .i64 y1, .int .i64 x2, .int .i64 y2]] (.int .i64 A))
    (hM : Gives 102 #[.agg #[.int .i64 (P1), .int .i64 (P2)]] (.agg #[.int .i64 (M1), .int .i64 (M2)]))
    (hD : Gives 95 #[.agg #[.int .i64 (p4 - p0), .int .i64 (p5 - p1)], .agg #[.int .i64 (M1), .int .i64 (M2)]] (.int .i64 D))
    (hR : Gives 101 #[.int .i64 H, .int .i64 D] (.int .i64 R))
    (hq : A.tdiv L = H) (hL0 : ¬ L = 0) (hwH : IntKind.i64.wrap H = H) :
    Calls Try.prog 82 #[.agg #[.int .i64 x0, .int .i64 y0, .int .i64 x1, .int .i64 y1, .int .i64 x2, .int .i64 y2], .int .i64 (i : Int), .int .i64 (j : Int)] w fun e w' => e = .returned (.agg #[.int .i64 L, .int .i64 R, .int .i64 H]) ∧ Below w.heap.size w w' := by
  have HP := Lib.hid hP
  have HL := Lib.hid hL
  have HA := Lib.hid hA
  have HM := Lib.hid hM
  have HD := Lib.hid hD
  have HR := Lib.hid hR
  have HB := Lib.hid hB
  have g1 : (0 : Int) ≤ (i : Int) := by omega
  have g2 : (i : Int) < 3 := by omega
  have g3 : (0 : Int) ≤ (j : Int) := by omega
  have g4 : (j : Int) < 3 := by omega
  have g5 : (0 : Int) ≤ (k : Int) := by omega
  have g6 : (k : Int) < 3 := by omega
  have m1 : IntKind.i64.wrap (3 - (i : Int)) = 3 - (i : Int) := by rw [IntKind.wrap_i64]; omega
  have m2 : IntKind.i64.wrap (3 - (i : Int) - (j : Int)) = (k : Int) := by rw [IntKind.wrap_i64]; omega
  have HEQ := Lib.hid (And.intro e0 (And.intro e1 (And.intro e2 (And.intro e3 (And.intro e4 e5)))))
  have HLT := Lib.hid (And.intro hi (And.intro hj hk))
  clear hP hL hA hM hD hR hB hijk e0 e1 e2 e3 e4 e5 hi hj hk
  go_enter Try.func82, Try.ntmps82
  go_upto_region 2 with (fail)
  clear m1 m2
  obtain ⟨wB, hwB⟩ : ∃ wB, wB = (w.alloc (.cells #[.int .i64 x0, .int .i64 y0, .int .i64 x1, .int .i64 y1, .int .i64 x2, .int .i64 y2] 27)).alloc (.cells #[.int .i64 0, .int .i64 0, .int .i64 0] 49) := ⟨_, rfl⟩
  rw [← hwB]
  have h6 : Bk6 wB w.heap.size x0 y0 x1 y1 x2 y2 := by rw [hwB]; exact (bk6_new w x0 y0 x1 y1 x2 y2 _).below ((Below.refl _ _).alloc (Nat.le_refl _) _)
  have h3 : Bk3 wB (w.heap.size + 1) 0 0 0 := by
    rw [hwB]
    have h := bk3_new (w.alloc (.cells #[.int .i64 x0, .int .i64 y0, .int .i64 x1, .int .i64 y1, .int .i64 x2, .int .i64 y2] 27)) 0 0 0 49
    rw [World.size_alloc] at h
    exact h
  have hbw : Below w.heap.size w wB := by rw [hwB]; (repeat' (first | (with_reducible exact Below.refl _ _) | (with_reducible refine Below.alloc ?_ ?_ _) | (with_reducible refine Below.setCell ?_ ?_ _) | (with_reducible refine Below.drew ?_) | (with_reducible refine below_drewN ?_ _) | (with_reducible assumption) | (with_reducible refine below_after (by with_reducible assumption) ?_) | go_size))
  have hsz : wB.heap.size = w.heap.size + 1 + 1 := by rw [hwB]; simp
  have HX : Hid (∀ W, Below wB.heap.size wB W → W.cell? ⟨w.heap.size, i * 2, none⟩ = some (.int .i64 p0) ∧ W.cell? ⟨w.heap.size, i * 2 + 1, none⟩ = some (.int .i64 p1) ∧ W.cell? ⟨w.heap.size, j * 2, none⟩ = some (.int .i64 p2) ∧ W.cell? ⟨w.heap.size, j * 2 + 1, none⟩ = some (.int .i64 p3) ∧ W.cell? ⟨w.heap.size, k * 2, none⟩ = some (.int .i64 p4) ∧ W.cell? ⟨w.heap.size, k * 2 + 1, none⟩ = some (.int .i64 p5) ∧ w.heap.size < W.heap.size) := by
    intro W hW
    obtain ⟨f0, f1, f2, f3, f4, f5⟩ := HEQ.out
    have hq := h6.below hW
    obtain ⟨a0, a1⟩ := bk6_at hq i HLT.out.1
    obtain ⟨b0, b1⟩ := bk6_at hq j HLT.out.2.1
    obtain ⟨c0, c1⟩ := bk6_at hq k HLT.out.2.2
    rw [f0] at a0; rw [f1] at a1; rw [f2] at b0; rw [f3] at b1; rw [f4] at c0; rw [f5] at c1
    exact ⟨a0, a1, b0, b1, c0, c1, hq.2.2⟩
  have H6 := Lib.hid h6
  have H3 := Lib.hid h3
  have HBW := Lib.hid hbw
  clear hwB h6 h3 hbw
  go_cut [8, 9] (fun v8 v9 wx => ∃ Gu Gv : Nat, v8 = .pointer (some ⟨Gu, 0, none⟩) ∧ v9 = .pointer (some ⟨Gv, 0, none⟩) ∧ Gu ≠ Gv ∧ wB.heap.size ≤ Gu ∧ wB.heap.size ≤ Gv ∧ Bk2 wx Gu (p2 - p0) (p3 - p1) ∧ Bk2 wx Gv (p4 - p0) (p5 - p1) ∧ Below wB.heap.size wB wx)
  case first =>
    refine wp_region_held_drew (S := fun W => Below wB.heap.size wB W) (by kernel_rfl) ?_ (fun hHeld => ?_); focus ((try dsimp only); (repeat' (first | (with_reducible exact Below.refl _ _) | (with_reducible refine Below.alloc ?_ ?_ _) | (with_reducible refine Below.setCell ?_ ?_ _) | (with_reducible refine Below.drew ?_) | (with_reducible refine below_drewN ?_ _) | (with_reducible assumption) | (with_reducible refine below_after (by with_reducible assumption) ?_) | go_size)))
    have hHeld : Below wB.heap.size wB _ := hHeld
    obtain ⟨wD, hwD⟩ : ∃ wD, wB.drew = wD := ⟨_, rfl⟩
    rw [hwD] at hHeld ⊢; clear hwD
    (refine wpAnyH_take (i := 0) (v := ?_) rfl (by kernel_rfl) (by kernel_rfl) (by kernel_rfl) (fun _ _ _ h => h) (Or.inl ⟨rfl, ?_⟩) (by assumption) ?_; rotate_left; focus (intro W hSw; (try dsimp only at hSw); obtain ⟨i0, i1, j0, j1, k0, k1, hz⟩ := HX.out _ hSw; go_simp; try (with_reducible rfl))); (try simp only [Act.put, List.getElem_toArray, List.getElem_cons_succ, List.getElem_cons_zero, List.setIfInBounds_toArray, List.set_cons_zero, List.set_cons_succ])
    (refine wpAnyH_take (i := 1) (v := ?_) rfl (by kernel_rfl) (by kernel_rfl) (by kernel_rfl) (fun _ _ _ h => h) (Or.inl ⟨rfl, ?_⟩) (by assumption) ?_; rotate_left; focus (intro W hSw; (try dsimp only at hSw); obtain ⟨i0, i1, j0, j1, k0, k1, hz⟩ := HX.out _ hSw; go_simp; try (with_reducible rfl))); (try simp only [Act.put, List.getElem_toArray, List.getElem_cons_succ, List.getElem_cons_zero, List.setIfInBounds_toArray, List.set_cons_zero, List.set_cons_succ])
    (refine wpAnyH_take (i := 2) (v := ?_) rfl (by kernel_rfl) (by kernel_rfl) (by kernel_rfl) (fun _ _ _ h => h) (Or.inl ⟨rfl, ?_⟩) (by assumption) ?_; rotate_left; focus (intro W hSw; (try dsimp only at hSw); obtain ⟨i0, i1, j0, j1, k0, k1, hz⟩ := HX.out _ hSw; go_simp; try (with_reducible rfl))); (try simp only [Act.put, List.getElem_toArray, List.getElem_cons_succ, List.getElem_cons_zero, List.setIfInBounds_toArray, List.set_cons_zero, List.set_cons_succ])
    (refine wpAnyH_take (i := 3) (v := ?_) rfl (by kernel_rfl) (by kernel_rfl) (by kernel_rfl) (fun _ _ _ h => h) (Or.inl ⟨rfl, ?_⟩) (by assumption) ?_; rotate_left; focus (intro W hSw; (try dsimp only at hSw); obtain ⟨i0, i1, j0, j1, k0, k1, hz⟩ := HX.out _ hSw; go_simp; try (with_reducible rfl))); (try simp only [Act.put, List.getElem_toArray, List.getElem_cons_succ, List.getElem_cons_zero, List.setIfInBounds_toArray, List.set_cons_zero, List.set_cons_succ])
    (refine wpAnyH_take (i := 4) (v := ?_) rfl (by kernel_rfl) (by kernel_rfl) (by kernel_rfl) (fun _ _ _ h => h) (Or.inl ⟨rfl, ?_⟩) (by assumption) ?_; rotate_left; focus (intro W hSw; (try dsimp only at hSw); obtain ⟨i0, i1, j0, j1, k0, k1, hz⟩ := HX.out _ hSw; go_simp; try (with_reducible rfl))); (try simp only [Act.put, List.getElem_toArray, List.getElem_cons_succ, List.getElem_cons_zero, List.setIfInBounds_toArray, List.set_cons_zero, List.set_cons_succ])
    (refine wpAnyH_take (i := 5) (v := ?_) rfl (by kernel_rfl) (by kernel_rfl) (by kernel_rfl) (fun _ _ _ h => h) (Or.inl ⟨rfl, ?_⟩) (by assumption) ?_; rotate_left; focus (intro W hSw; (try dsimp only at hSw); obtain ⟨i0, i1, j0, j1, k0, k1, hz⟩ := HX.out _ hSw; go_simp; try (with_reducible rfl))); (try simp only [Act.put, List.getElem_toArray, List.getElem_cons_succ, List.getElem_cons_zero, List.setIfInBounds_toArray, List.set_cons_zero, List.set_cons_succ])
    (refine wpAnyH_take (i := 7) (v := ?_) rfl (by kernel_rfl) (by kernel_rfl) (by kernel_rfl) (fun _ _ _ h => h) (Or.inl ⟨rfl, ?_⟩) (by assumption) ?_; rotate_left; focus (intro W hSw; (try dsimp only at hSw); obtain ⟨i0, i1, j0, j1, k0, k1, hz⟩ := HX.out _ hSw; go_simp; try (with_reducible rfl))); (try simp only [Act.put, List.getElem_toArray, List.getElem_cons_succ, List.getElem_cons_zero, List.setIfInBounds_toArray, List.set_cons_zero, List.set_cons_succ])
    (refine wpAnyH_take (i := 8) (v := ?_) rfl (by kernel_rfl) (by kernel_rfl) (by kernel_rfl) (fun _ _ _ h => h) (Or.inl ⟨rfl, ?_⟩) (by assumption) ?_; rotate_left; focus (intro W hSw; (try dsimp only at hSw); obtain ⟨i0, i1, j0, j1, k0, k1, hz⟩ := HX.out _ hSw; go_simp; try (with_reducible rfl))); (try simp only [Act.put, List.getElem_toArray, List.getElem_cons_succ, List.getElem_cons_zero, List.setIfInBounds_toArray, List.set_cons_zero, List.set_cons_succ])
    (refine wpAnyH_take (i := 9) (v := ?_) rfl (by kernel_rfl) (by kernel_rfl) (by kernel_rfl) (fun _ _ _ h => h) (Or.inl ⟨rfl, ?_⟩) (by assumption) ?_; rotate_left; focus (intro W hSw; (try dsimp only at hSw); obtain ⟨i0, i1, j0, j1, k0, k1, hz⟩ := HX.out _ hSw; go_simp; try (with_reducible rfl))); (try simp only [Act.put, List.getElem_toArray, List.getElem_cons_succ, List.getElem_cons_zero, List.setIfInBounds_toArray, List.set_cons_zero, List.set_cons_succ])
    (refine wpAnyH_take (i := 10) (v := ?_) rfl (by kernel_rfl) (by kernel_rfl) (by kernel_rfl) (fun _ _ _ h => h) (Or.inl ⟨rfl, ?_⟩) (by assumption) ?_; rotate_left; focus (intro W hSw; (try dsimp only at hSw); obtain ⟨i0, i1, j0, j1, k0, k1, hz⟩ := HX.out _ hSw; go_simp; try (with_reducible rfl))); (try simp only [Act.put, List.getElem_toArray, List.getElem_cons_succ, List.getElem_cons_zero, List.setIfInBounds_toArray, List.set_cons_zero, List.set_cons_succ])
    (refine wpAnyH_take (i := 11) (v := ?_) rfl (by kernel_rfl) (by kernel_rfl) (by kernel_rfl) (fun _ _ _ h => h) (Or.inl ⟨rfl, ?_⟩) (by assumption) ?_; rotate_left; focus (intro W hSw; (try dsimp only at hSw); obtain ⟨i0, i1, j0, j1, k0, k1, hz⟩ := HX.out _ hSw; go_simp; try (with_reducible rfl))); (try simp only [Act.put, List.getElem_toArray, List.getElem_cons_succ, List.getElem_cons_zero, List.setIfInBounds_toArray, List.set_cons_zero, List.set_cons_succ])
    (refine wpAnyH_take (i := 12) (v := ?_) rfl (by kernel_rfl) (by kernel_rfl) (by kernel_rfl) (fun _ _ _ h => h) (Or.inl ⟨rfl, ?_⟩) (by assumption) ?_; rotate_left; focus (intro W hSw; (try dsimp only at hSw); obtain ⟨i0, i1, j0, j1, k0, k1, hz⟩ := HX.out _ hSw; go_simp; try (with_reducible rfl))); (try simp only [Act.put, List.getElem_toArray, List.getElem_cons_succ, List.getElem_cons_zero, List.setIfInBounds_toArray, List.set_cons_zero, List.set_cons_succ])
    refine wpAnyH_ready (rs := [6, 14, 15]) (by kernel_rfl) (by simp) ?_; refine AllReadyH.cons rfl (fun K hK => ?_) (AllReadyH.cons rfl (fun K hK => ?_) (AllReadyH.cons rfl (fun K hK => ?_) AllReadyH.nil))
    · skip
      go_simp; (go_at_call 91; refine (l01Plus_minus _ _ _ _ _ HB.out.2.2.1 HB.out.2.2.2.1 HB.out.1 HB.out.2.1).mono ?_; rintro en w16 ⟨rfl, hb2⟩); refine hK.out _ _ (below_after hb2 hHeld) (fun hHeld2 => ?_); clear hb2; (clear hHeld; rename _ => hHeld; clear hK K; have hHeld : Below wB.heap.size wB _ := hHeld); (try simp only [Act.put, List.getElem_toArray, List.getElem_cons_succ, List.getElem_cons_zero, List.setIfInBounds_toArray, List.set_cons_zero, List.set_cons_succ])
      refine wpAnyH_ready (rs := [13, 14, 15]) (by kernel_rfl) (by simp) ?_; refine AllReadyH.cons rfl (fun K hK => ?_) (AllReadyH.cons rfl (fun K hK => ?_) (AllReadyH.cons rfl (fun K hK => ?_) AllReadyH.nil))
      · skip
        go_simp; (go_at_call 91; refine (l01Plus_minus _ _ _ _ _ HB.out.2.2.2.2.1 HB.out.2.2.2.2.2 HB.out.1 HB.out.2.1).mono ?_; rintro en w2136 ⟨rfl, hb2⟩); refine hK.out _ _ (below_after hb2 hHeld) (fun hHeld2 => ?_); clear hb2; (clear hHeld; rename _ => hHeld; clear hK K; have hHeld : Below wB.heap.size wB _ := hHeld); (try simp only [Act.put, List.getElem_toArray, List.getElem_cons_succ, List.getElem_cons_zero, List.setIfInBounds_toArray, List.set_cons_zero, List.set_cons_succ])
        refine wpAnyH_ready (rs := [14, 15]) (by kernel_rfl) (by simp) ?_; refine AllReadyH.cons rfl (fun K hK => ?_) (AllReadyH.cons rfl (fun K hK => ?_) AllReadyH.nil)
        · skip
          go_simp; obtain ⟨Gu, hGu⟩ : ∃ G, w2136.heap.size = G := ⟨_, rfl⟩; have le_u : wB.heap.size ≤ Gu := by rw [← hGu]; exact Below.size hHeld
          have HU : Hid (Bk2 (w2136.alloc (.cells #[.int .i64 0, .int .i64 0] 25)) Gu 0 0) := by rw [← hGu]; exact bk2_new w2136 0 0 _
          refine hK.out _ _ (Below.alloc hHeld (Below.size hHeld) _) (fun hHeld2 => ?_); (clear hHeld; rename _ => hHeld; clear hK K; have hHeld : Below wB.heap.size wB _ := hHeld); (try simp only [Act.put, List.getElem_toArray, List.getElem_cons_succ, List.getElem_cons_zero, List.setIfInBounds_toArray, List.set_cons_zero, List.set_cons_succ])
          rw [hGu]; clear hGu; obtain ⟨w3136u, hwx⟩ : ∃ wx, w2136.alloc (.cells #[.int .i64 0, .int .i64 0] 25) = wx := ⟨_, rfl⟩; rw [hwx] at HU hHeld ⊢; clear hwx
          refine wpAnyH_ready (rs := [15]) (by kernel_rfl) (by simp) ?_; refine AllReadyH.cons rfl (fun K hK => ?_) AllReadyH.nil
          go_simp; obtain ⟨Gv, hGv⟩ : ∃ G, w3136u.heap.size = G := ⟨_, rfl⟩; have le_v : wB.heap.size ≤ Gv := by rw [← hGv]; exact Below.size hHeld
          have HV : Hid (Bk2 (w3136u.alloc (.cells #[.int .i64 0, .int .i64 0] 25)) Gv 0 0) := by rw [← hGv]; exact bk2_new w3136u 0 0 _
          have hne : Gu ≠ Gv := by have := HU.out.2.2; omega
          have HU := Lib.hid (HU.out.below ((Below.refl _ _).alloc (Nat.le_refl _) (.cells #[.int .i64 0, .int .i64 0] 25)))
          refine hK.out _ _ (Below.alloc hHeld (Below.size hHeld) _) (fun hHeld2 => ?_); (clear hHeld; rename _ => hHeld; clear hK K; have hHeld : Below wB.heap.size wB _ := hHeld); (try simp only [Act.put, List.getElem_toArray, List.getElem_cons_succ, List.getElem_cons_zero, List.setIfInBounds_toArray, List.set_cons_zero, List.set_cons_succ])
          rw [hGv]; clear hGv; obtain ⟨w4136uv, hwx⟩ : ∃ wx, w3136u.alloc (.cells #[.int .i64 0, .int .i64 0] 25) = wx := ⟨_, rfl⟩; rw [hwx] at HV HU hHeld ⊢; clear hwx
          refine wpAnyH_ready (rs := [16]) (by kernel_rfl) (by simp) ?_; refine AllReadyH.cons rfl (fun K hK => ?_) AllReadyH.nil
          obtain ⟨⟨a0, a1⟩, ⟨a2, a3⟩, a4⟩ := HU.out; go_simp; clear a0 a1 a2 a3 a4
          have HV := Lib.hid ((HV.out.far ⟨Gu, 0, none⟩ (.int .i64 (p2 - p0)) (by show Gv ≠ Gu; omega)).far ⟨Gu, 1, none⟩ (.int .i64 (p3 - p1)) (by show Gv ≠ Gu; omega)); have HU := Lib.hid ((HU.out.set0 (p2 - p0)).set1 (p3 - p1))
          refine hK.out _ _ (Below.setCell (Below.setCell hHeld (p := ⟨Gu, 0, none⟩) le_u _) (p := ⟨Gu, 1, none⟩) le_u _) (fun hHeld2 => ?_); (clear hHeld; rename _ => hHeld; clear hK K; have hHeld : Below wB.heap.size wB _ := hHeld); (try simp only [Act.put, List.getElem_toArray, List.getElem_cons_succ, List.getElem_cons_zero, List.setIfInBounds_toArray, List.set_cons_zero, List.set_cons_succ])
          refine wpAnyH_ready (rs := [17]) (by kernel_rfl) (by simp) ?_; refine AllReadyH.cons rfl (fun K hK => ?_) AllReadyH.nil
          obtain ⟨⟨a0, a1⟩, ⟨a2, a3⟩, a4⟩ := HV.out; go_simp; clear a0 a1 a2 a3 a4
          have HU := Lib.hid ((HU.out.far ⟨Gv, 0, none⟩ (.int .i64 (p4 - p0)) (by show Gu ≠ Gv; omega)).far ⟨Gv, 1, none⟩ (.int .i64 (p5 - p1)) (by show Gu ≠ Gv; omega)); have HV := Lib.hid ((HV.out.set0 (p4 - p0)).set1 (p5 - p1))
          refine hK.out _ _ (Below.setCell (Below.setCell hHeld (p := ⟨Gv, 0, none⟩) le_v _) (p := ⟨Gv, 1, none⟩) le_v _) (fun hHeld2 => ?_); (clear hHeld; rename _ => hHeld; clear hK K; have hHeld : Below wB.heap.size wB _ := hHeld); (try simp only [Act.put, List.getElem_toArray, List.getElem_cons_succ, List.getElem_cons_zero, List.setIfInBounds_toArray, List.set_cons_zero, List.set_cons_succ])
          refine wpAnyH_done (by kernel_rfl) ?_ _
          go_wp2_with fail
          go_meet
          exact ⟨_, _, rfl, rfl, hne, le_u, le_v, HU.out, HV.out, hHeld⟩
        · skip
          go_simp; obtain ⟨Gv, hGv⟩ : ∃ G, w2136.heap.size = G := ⟨_, rfl⟩; have le_v : wB.heap.size ≤ Gv := by rw [← hGv]; exact Below.size hHeld
          have HV : Hid (Bk2 (w2136.alloc (.cells #[.int .i64 0, .int .i64 0] 25)) Gv 0 0) := by rw [← hGv]; exact bk2_new w2136 0 0 _
          refine hK.out _ _ (Below.alloc hHeld (Below.size hHeld) _) (fun hHeld2 => ?_); (clear hHeld; rename _ => hHeld; clear hK K; have hHeld : Below wB.heap.size wB _ := hHeld); (try simp only [Act.put, List.getElem_toArray, List.getElem_cons_succ, List.getElem_cons_zero, List.setIfInBounds_toArray, List.set_cons_zero, List.set_cons_succ])
          rw [hGv]; clear hGv; obtain ⟨w3136v, hwx⟩ : ∃ wx, w2136.alloc (.cells #[.int .i64 0, .int .i64 0] 25) = wx := ⟨_, rfl⟩; rw [hwx] at HV hHeld ⊢; clear hwx
          refine wpAnyH_ready (rs := [14]) (by kernel_rfl) (by simp) ?_; refine AllReadyH.cons rfl (fun K hK => ?_) AllReadyH.nil
          go_simp; obtain ⟨Gu, hGu⟩ : ∃ G, w3136v.heap.size = G := ⟨_, rfl⟩; have le_u : wB.heap.size ≤ Gu := by rw [← hGu]; exact Below.size hHeld
          have HU : Hid (Bk2 (w3136v.alloc (.cells #[.int .i64 0, .int .i64 0] 25)) Gu 0 0) := by rw [← hGu]; exact bk2_new w3136v 0 0 _
          have hne : Gu ≠ Gv := by have := HV.out.2.2; omega
          have HV := Lib.hid (HV.out.below ((Below.refl _ _).alloc (Nat.le_refl _) (.cells #[.int .i64 0, .int .i64 0] 25)))
          refine hK.out _ _ (Below.alloc hHeld (Below.size hHeld) _) (fun hHeld2 => ?_); (clear hHeld; rename _ => hHeld; clear hK K; have hHeld : Below wB.heap.size wB _ := hHeld); (try simp only [Act.put, List.getElem_toArray, List.getElem_cons_succ, List.getElem_cons_zero, List.setIfInBounds_toArray, List.set_cons_zero, List.set_cons_succ])
          rw [hGu]; clear hGu; obtain ⟨w4136uv, hwx⟩ : ∃ wx, w3136v.alloc (.cells #[.int .i64 0, .int .i64 0] 25) = wx := ⟨_, rfl⟩; rw [hwx] at HU HV hHeld ⊢; clear hwx
          refine wpAnyH_ready (rs := [16]) (by kernel_rfl) (by simp) ?_; refine AllReadyH.cons rfl (fun K hK => ?_) AllReadyH.nil
          obtain ⟨⟨a0, a1⟩, ⟨a2, a3⟩, a4⟩ := HU.out; go_simp; clear a0 a1 a2 a3 a4
          have HV := Lib.hid ((HV.out.far ⟨Gu, 0, none⟩ (.int .i64 (p2 - p0)) (by show Gv ≠ Gu; omega)).far ⟨Gu, 1, none⟩ (.int .i64 (p3 - p1)) (by show Gv ≠ Gu; omega)); have HU := Lib.hid ((HU.out.set0 (p2 - p0)).set1 (p3 - p1))
          refine hK.out _ _ (Below.setCell (Below.setCell hHeld (p := ⟨Gu, 0, none⟩) le_u _) (p := ⟨Gu, 1, none⟩) le_u _) (fun hHeld2 => ?_); (clear hHeld; rename _ => hHeld; clear hK K; have hHeld : Below wB.heap.size wB _ := hHeld); (try simp only [Act.put, List.getElem_toArray, List.getElem_cons_succ, List.getElem_cons_zero, List.setIfInBounds_toArray, List.set_cons_zero, List.set_cons_succ])
          refine wpAnyH_ready (rs := [17]) (by kernel_rfl) (by simp) ?_; refine AllReadyH.cons rfl (fun K hK => ?_) AllReadyH.nil
          obtain ⟨⟨a0, a1⟩, ⟨a2, a3⟩, a4⟩ := HV.out; go_simp; clear a0 a1 a2 a3 a4
          have HU := Lib.hid ((HU.out.far ⟨Gv, 0, none⟩ (.int .i64 (p4 - p0)) (by show Gu ≠ Gv; omega)).far ⟨Gv, 1, none⟩ (.int .i64 (p5 - p1)) (by show Gu ≠ Gv; omega)); have HV := Lib.hid ((HV.out.set0 (p4 - p0)).set1 (p5 - p1))
          refine hK.out _ _ (Below.setCell (Below.setCell hHeld (p := ⟨Gv, 0, none⟩) le_v _) (p := ⟨Gv, 1, none⟩) le_v _) (fun hHeld2 => ?_); (clear hHeld; rename _ => hHeld; clear hK K; have hHeld : Below wB.heap.size wB _ := hHeld); (try simp only [Act.put, List.getElem_toArray, List.getElem_cons_succ, List.getElem_cons_zero, List.setIfInBounds_toArray, List.set_cons_zero, List.set_cons_succ])
          refine wpAnyH_done (by kernel_rfl) ?_ _
          go_wp2_with fail
          go_meet
          exact ⟨_, _, rfl, rfl, hne, le_u, le_v, HU.out, HV.out, hHeld⟩
      · skip
        go_simp; obtain ⟨Gu, hGu⟩ : ∃ G, w16.heap.size = G := ⟨_, rfl⟩; have le_u : wB.heap.size ≤ Gu := by rw [← hGu]; exact Below.size hHeld
        have HU : Hid (Bk2 (w16.alloc (.cells #[.int .i64 0, .int .i64 0] 25)) Gu 0 0) := by rw [← hGu]; exact bk2_new w16 0 0 _
        refine hK.out _ _ (Below.alloc hHeld (Below.size hHeld) _) (fun hHeld2 => ?_); (clear hHeld; rename _ => hHeld; clear hK K; have hHeld : Below wB.heap.size wB _ := hHeld); (try simp only [Act.put, List.getElem_toArray, List.getElem_cons_succ, List.getElem_cons_zero, List.setIfInBounds_toArray, List.set_cons_zero, List.set_cons_succ])
        rw [hGu]; clear hGu; obtain ⟨w26u, hwx⟩ : ∃ wx, w16.alloc (.cells #[.int .i64 0, .int .i64 0] 25) = wx := ⟨_, rfl⟩; rw [hwx] at HU hHeld ⊢; clear hwx
        refine wpAnyH_ready (rs := [13, 15]) (by kernel_rfl) (by simp) ?_; refine AllReadyH.cons rfl (fun K hK => ?_) (AllReadyH.cons rfl (fun K hK => ?_) AllReadyH.nil)
        · skip
          go_simp; (go_at_call 91; refine (l01Plus_minus _ _ _ _ _ HB.out.2.2.2.2.1 HB.out.2.2.2.2.2 HB.out.1 HB.out.2.1).mono ?_; rintro en w3136u ⟨rfl, hb2⟩); have HU := Lib.hid (HU.out.below hb2); refine hK.out _ _ (below_after hb2 hHeld) (fun hHeld2 => ?_); clear hb2; (clear hHeld; rename _ => hHeld; clear hK K; have hHeld : Below wB.heap.size wB _ := hHeld); (try simp only [Act.put, List.getElem_toArray, List.getElem_cons_succ, List.getElem_cons_zero, List.setIfInBounds_toArray, List.set_cons_zero, List.set_cons_succ])
          refine wpAnyH_ready (rs := [15]) (by kernel_rfl) (by simp) ?_; refine AllReadyH.cons rfl (fun K hK => ?_) AllReadyH.nil
          go_simp; obtain ⟨Gv, hGv⟩ : ∃ G, w3136u.heap.size = G := ⟨_, rfl⟩; have le_v : wB.heap.size ≤ Gv := by rw [← hGv]; exact Below.size hHeld
          have HV : Hid (Bk2 (w3136u.alloc (.cells #[.int .i64 0, .int .i64 0] 25)) Gv 0 0) := by rw [← hGv]; exact bk2_new w3136u 0 0 _
          have hne : Gu ≠ Gv := by have := HU.out.2.2; omega
          have HU := Lib.hid (HU.out.below ((Below.refl _ _).alloc (Nat.le_refl _) (.cells #[.int .i64 0, .int .i64 0] 25)))
          refine hK.out _ _ (Below.alloc hHeld (Below.size hHeld) _) (fun hHeld2 => ?_); (clear hHeld; rename _ => hHeld; clear hK K; have hHeld : Below wB.heap.size wB _ := hHeld); (try simp only [Act.put, List.getElem_toArray, List.getElem_cons_succ, List.getElem_cons_zero, List.setIfInBounds_toArray, List.set_cons_zero, List.set_cons_succ])
          rw [hGv]; clear hGv; obtain ⟨w4136uv, hwx⟩ : ∃ wx, w3136u.alloc (.cells #[.int .i64 0, .int .i64 0] 25) = wx := ⟨_, rfl⟩; rw [hwx] at HV HU hHeld ⊢; clear hwx
          refine wpAnyH_ready (rs := [16]) (by kernel_rfl) (by simp) ?_; refine AllReadyH.cons rfl (fun K hK => ?_) AllReadyH.nil
          obtain ⟨⟨a0, a1⟩, ⟨a2, a3⟩, a4⟩ := HU.out; go_simp; clear a0 a1 a2 a3 a4
          have HV := Lib.hid ((HV.out.far ⟨Gu, 0, none⟩ (.int .i64 (p2 - p0)) (by show Gv ≠ Gu; omega)).far ⟨Gu, 1, none⟩ (.int .i64 (p3 - p1)) (by show Gv ≠ Gu; omega)); have HU := Lib.hid ((HU.out.set0 (p2 - p0)).set1 (p3 - p1))
          refine hK.out _ _ (Below.setCell (Below.setCell hHeld (p := ⟨Gu, 0, none⟩) le_u _) (p := ⟨Gu, 1, none⟩) le_u _) (fun hHeld2 => ?_); (clear hHeld; rename _ => hHeld; clear hK K; have hHeld : Below wB.heap.size wB _ := hHeld); (try simp only [Act.put, List.getElem_toArray, List.getElem_cons_succ, List.getElem_cons_zero, List.setIfInBounds_toArray, List.set_cons_zero, List.set_cons_succ])
          refine wpAnyH_ready (rs := [17]) (by kernel_rfl) (by simp) ?_; refine AllReadyH.cons rfl (fun K hK => ?_) AllReadyH.nil
          obtain ⟨⟨a0, a1⟩, ⟨a2, a3⟩, a4⟩ := HV.out; go_simp; clear a0 a1 a2 a3 a4
          have HU := Lib.hid ((HU.out.far ⟨Gv, 0, none⟩ (.int .i64 (p4 - p0)) (by show Gu ≠ Gv; omega)).far ⟨Gv, 1, none⟩ (.int .i64 (p5 - p1)) (by show Gu ≠ Gv; omega)); have HV := Lib.hid ((HV.out.set0 (p4 - p0)).set1 (p5 - p1))
          refine hK.out _ _ (Below.setCell (Below.setCell hHeld (p := ⟨Gv, 0, none⟩) le_v _) (p := ⟨Gv, 1, none⟩) le_v _) (fun hHeld2 => ?_); (clear hHeld; rename _ => hHeld; clear hK K; have hHeld : Below wB.heap.size wB _ := hHeld); (try simp only [Act.put, List.getElem_toArray, List.getElem_cons_succ, List.getElem_cons_zero, List.setIfInBounds_toArray, List.set_cons_zero, List.set_cons_succ])
          refine wpAnyH_done (by kernel_rfl) ?_ _
          go_wp2_with fail
          go_meet
          exact ⟨_, _, rfl, rfl, hne, le_u, le_v, HU.out, HV.out, hHeld⟩
        · skip
          go_simp; obtain ⟨Gv, hGv⟩ : ∃ G, w26u.heap.size = G := ⟨_, rfl⟩; have le_v : wB.heap.size ≤ Gv := by rw [← hGv]; exact Below.size hHeld
          have HV : Hid (Bk2 (w26u.alloc (.cells #[.int .i64 0, .int .i64 0] 25)) Gv 0 0) := by rw [← hGv]; exact bk2_new w26u 0 0 _
          have hne : Gu ≠ Gv := by have := HU.out.2.2; omega
          have HU := Lib.hid (HU.out.below ((Below.refl _ _).alloc (Nat.le_refl _) (.cells #[.int .i64 0, .int .i64 0] 25)))
          refine hK.out _ _ (Below.alloc hHeld (Below.size hHeld) _) (fun hHeld2 => ?_); (clear hHeld; rename _ => hHeld; clear hK K; have hHeld : Below wB.heap.size wB _ := hHeld); (try simp only [Act.put, List.getElem_toArray, List.getElem_cons_succ, List.getElem_cons_zero, List.setIfInBounds_toArray, List.set_cons_zero, List.set_cons_succ])
          rw [hGv]; clear hGv; obtain ⟨w36uv, hwx⟩ : ∃ wx, w26u.alloc (.cells #[.int .i64 0, .int .i64 0] 25) = wx := ⟨_, rfl⟩; rw [hwx] at HV HU hHeld ⊢; clear hwx
          refine wpAnyH_ready (rs := [13]) (by kernel_rfl) (by simp) ?_; refine AllReadyH.cons rfl (fun K hK => ?_) AllReadyH.nil
          go_simp; (go_at_call 91; refine (l01Plus_minus _ _ _ _ _ HB.out.2.2.2.2.1 HB.out.2.2.2.2.2 HB.out.1 HB.out.2.1).mono ?_; rintro en w4136uv ⟨rfl, hb2⟩); have HU := Lib.hid (HU.out.below hb2); have HV := Lib.hid (HV.out.below hb2); refine hK.out _ _ (below_after hb2 hHeld) (fun hHeld2 => ?_); clear hb2; (clear hHeld; rename _ => hHeld; clear hK K; have hHeld : Below wB.heap.size wB _ := hHeld); (try simp only [Act.put, List.getElem_toArray, List.getElem_cons_succ, List.getElem_cons_zero, List.setIfInBounds_toArray, List.set_cons_zero, List.set_cons_succ])
          refine wpAnyH_ready (rs := [16]) (by kernel_rfl) (by simp) ?_; refine AllReadyH.cons rfl (fun K hK => ?_) AllReadyH.nil
          obtain ⟨⟨a0, a1⟩, ⟨a2, a3⟩, a4⟩ := HU.out; go_simp; clear a0 a1 a2 a3 a4
          have HV := Lib.hid ((HV.out.far ⟨Gu, 0, none⟩ (.int .i64 (p2 - p0)) (by show Gv ≠ Gu; omega)).far ⟨Gu, 1, none⟩ (.int .i64 (p3 - p1)) (by show Gv ≠ Gu; omega)); have HU := Lib.hid ((HU.out.set0 (p2 - p0)).set1 (p3 - p1))
          refine hK.out _ _ (Below.setCell (Below.setCell hHeld (p := ⟨Gu, 0, none⟩) le_u _) (p := ⟨Gu, 1, none⟩) le_u _) (fun hHeld2 => ?_); (clear hHeld; rename _ => hHeld; clear hK K; have hHeld : Below wB.heap.size wB _ := hHeld); (try simp only [Act.put, List.getElem_toArray, List.getElem_cons_succ, List.getElem_cons_zero, List.setIfInBounds_toArray, List.set_cons_zero, List.set_cons_succ])
          refine wpAnyH_ready (rs := [17]) (by kernel_rfl) (by simp) ?_; refine AllReadyH.cons rfl (fun K hK => ?_) AllReadyH.nil
          obtain ⟨⟨a0, a1⟩, ⟨a2, a3⟩, a4⟩ := HV.out; go_simp; clear a0 a1 a2 a3 a4
          have HU := Lib.hid ((HU.out.far ⟨Gv, 0, none⟩ (.int .i64 (p4 - p0)) (by show Gu ≠ Gv; omega)).far ⟨Gv, 1, none⟩ (.int .i64 (p5 - p1)) (by show Gu ≠ Gv; omega)); have HV := Lib.hid ((HV.out.set0 (p4 - p0)).set1 (p5 - p1))
          refine hK.out _ _ (Below.setCell (Below.setCell hHeld (p := ⟨Gv, 0, none⟩) le_v _) (p := ⟨Gv, 1, none⟩) le_v _) (fun hHeld2 => ?_); (clear hHeld; rename _ => hHeld; clear hK K; have hHeld : Below wB.heap.size wB _ := hHeld); (try simp only [Act.put, List.getElem_toArray, List.getElem_cons_succ, List.getElem_cons_zero, List.setIfInBounds_toArray, List.set_cons_zero, List.set_cons_succ])
          refine wpAnyH_done (by kernel_rfl) ?_ _
          go_wp2_with fail
          go_meet
          exact ⟨_, _, rfl, rfl, hne, le_u, le_v, HU.out, HV.out, hHeld⟩
      · skip
        go_simp; obtain ⟨Gv, hGv⟩ : ∃ G, w16.heap.size = G := ⟨_, rfl⟩; have le_v : wB.heap.size ≤ Gv := by rw [← hGv]; exact Below.size hHeld
        have HV : Hid (Bk2 (w16.alloc (.cells #[.int .i64 0, .int .i64 0] 25)) Gv 0 0) := by rw [← hGv]; exact bk2_new w16 0 0 _
        refine hK.out _ _ (Below.alloc hHeld (Below.size hHeld) _) (fun hHeld2 => ?_); (clear hHeld; rename _ => hHeld; clear hK K; have hHeld : Below wB.heap.size wB _ := hHeld); (try simp only [Act.put, List.getElem_toArray, List.getElem_cons_succ, List.getElem_cons_zero, List.setIfInBounds_toArray, List.set_cons_zero, List.set_cons_succ])
        rw [hGv]; clear hGv; obtain ⟨w26v, hwx⟩ : ∃ wx, w16.alloc (.cells #[.int .i64 0, .int .i64 0] 25) = wx := ⟨_, rfl⟩; rw [hwx] at HV hHeld ⊢; clear hwx
        refine wpAnyH_ready (rs := [13, 14]) (by kernel_rfl) (by simp) ?_; refine AllReadyH.cons rfl (fun K hK => ?_) (AllReadyH.cons rfl (fun K hK => ?_) AllReadyH.nil)
        · skip
          go_simp; (go_at_call 91; refine (l01Plus_minus _ _ _ _ _ HB.out.2.2.2.2.1 HB.out.2.2.2.2.2 HB.out.1 HB.out.2.1).mono ?_; rintro en w3136v ⟨rfl, hb2⟩); have HV := Lib.hid (HV.out.below hb2); refine hK.out _ _ (below_after hb2 hHeld) (fun hHeld2 => ?_); clear hb2; (clear hHeld; rename _ => hHeld; clear hK K; have hHeld : Below wB.heap.size wB _ := hHeld); (try simp only [Act.put, List.getElem_toArray, List.getElem_cons_succ, List.getElem_cons_zero, List.setIfInBounds_toArray, List.set_cons_zero, List.set_cons_succ])
          refine wpAnyH_ready (rs := [14]) (by kernel_rfl) (by simp) ?_; refine AllReadyH.cons rfl (fun K hK => ?_) AllReadyH.nil
          go_simp; obtain ⟨Gu, hGu⟩ : ∃ G, w3136v.heap.size = G := ⟨_, rfl⟩; have le_u : wB.heap.size ≤ Gu := by rw [← hGu]; exact Below.size hHeld
          have HU : Hid (Bk2 (w3136v.alloc (.cells #[.int .i64 0, .int .i64 0] 25)) Gu 0 0) := by rw [← hGu]; exact bk2_new w3136v 0 0 _
          have hne : Gu ≠ Gv := by have := HV.out.2.2; omega
          have HV := Lib.hid (HV.out.below ((Below.refl _ _).alloc (Nat.le_refl _) (.cells #[.int .i64 0, .int .i64 0] 25)))
          refine hK.out _ _ (Below.alloc hHeld (Below.size hHeld) _) (fun hHeld2 => ?_); (clear hHeld; rename _ => hHeld; clear hK K; have hHeld : Below wB.heap.size wB _ := hHeld); (try simp only [Act.put, List.getElem_toArray, List.getElem_cons_succ, List.getElem_cons_zero, List.setIfInBounds_toArray, List.set_cons_zero, List.set_cons_succ])
          rw [hGu]; clear hGu; obtain ⟨w4136uv, hwx⟩ : ∃ wx, w3136v.alloc (.cells #[.int .i64 0, .int .i64 0] 25) = wx := ⟨_, rfl⟩; rw [hwx] at HU HV hHeld ⊢; clear hwx
          refine wpAnyH_ready (rs := [16]) (by kernel_rfl) (by simp) ?_; refine AllReadyH.cons rfl (fun K hK => ?_) AllReadyH.nil
          obtain ⟨⟨a0, a1⟩, ⟨a2, a3⟩, a4⟩ := HU.out; go_simp; clear a0 a1 a2 a3 a4
          have HV := Lib.hid ((HV.out.far ⟨Gu, 0, none⟩ (.int .i64 (p2 - p0)) (by show Gv ≠ Gu; omega)).far ⟨Gu, 1, none⟩ (.int .i64 (p3 - p1)) (by show Gv ≠ Gu; omega)); have HU := Lib.hid ((HU.out.set0 (p2 - p0)).set1 (p3 - p1))
          refine hK.out _ _ (Below.setCell (Below.setCell hHeld (p := ⟨Gu, 0, none⟩) le_u _) (p := ⟨Gu, 1, none⟩) le_u _) (fun hHeld2 => ?_); (clear hHeld; rename _ => hHeld; clear hK K; have hHeld : Below wB.heap.size wB _ := hHeld); (try simp only [Act.put, List.getElem_toArray, List.getElem_cons_succ, List.getElem_cons_zero, List.setIfInBounds_toArray, List.set_cons_zero, List.set_cons_succ])
          refine wpAnyH_ready (rs := [17]) (by kernel_rfl) (by simp) ?_; refine AllReadyH.cons rfl (fun K hK => ?_) AllReadyH.nil
          obtain ⟨⟨a0, a1⟩, ⟨a2, a3⟩, a4⟩ := HV.out; go_simp; clear a0 a1 a2 a3 a4
          have HU := Lib.hid ((HU.out.far ⟨Gv, 0, none⟩ (.int .i64 (p4 - p0)) (by show Gu ≠ Gv; omega)).far ⟨Gv, 1, none⟩ (.int .i64 (p5 - p1)) (by show Gu ≠ Gv; omega)); have HV := Lib.hid ((HV.out.set0 (p4 - p0)).set1 (p5 - p1))
          refine hK.out _ _ (Below.setCell (Below.setCell hHeld (p := ⟨Gv, 0, none⟩) le_v _) (p := ⟨Gv, 1, none⟩) le_v _) (fun hHeld2 => ?_); (clear hHeld; rename _ => hHeld; clear hK K; have hHeld : Below wB.heap.size wB _ := hHeld); (try simp only [Act.put, List.getElem_toArray, List.getElem_cons_succ, List.getElem_cons_zero, List.setIfInBounds_toArray, List.set_cons_zero, List.set_cons_succ])
          refine wpAnyH_done (by kernel_rfl) ?_ _
          go_wp2_with fail
          go_meet
          exact ⟨_, _, rfl, rfl, hne, le_u, le_v, HU.out, HV.out, hHeld⟩
        · skip
          go_simp; obtain ⟨Gu, hGu⟩ : ∃ G, w26v.heap.size = G := ⟨_, rfl⟩; have le_u : wB.heap.size ≤ Gu := by rw [← hGu]; exact Below.size hHeld
          have HU : Hid (Bk2 (w26v.alloc (.cells #[.int .i64 0, .int .i64 0] 25)) Gu 0 0) := by rw [← hGu]; exact bk2_new w26v 0 0 _
          have hne : Gu ≠ Gv := by have := HV.out.2.2; omega
          have HV := Lib.hid (HV.out.below ((Below.refl _ _).alloc (Nat.le_refl _) (.cells #[.int .i64 0, .int .i64 0] 25)))
          refine hK.out _ _ (Below.alloc hHeld (Below.size hHeld) _) (fun hHeld2 => ?_); (clear hHeld; rename _ => hHeld; clear hK K; have hHeld : Below wB.heap.size wB _ := hHeld); (try simp only [Act.put, List.getElem_toArray, List.getElem_cons_succ, List.getElem_cons_zero, List.setIfInBounds_toArray, List.set_cons_zero, List.set_cons_succ])
          rw [hGu]; clear hGu; obtain ⟨w36uv, hwx⟩ : ∃ wx, w26v.alloc (.cells #[.int .i64 0, .int .i64 0] 25) = wx := ⟨_, rfl⟩; rw [hwx] at HU HV hHeld ⊢; clear hwx
          refine wpAnyH_ready (rs := [13]) (by kernel_rfl) (by simp) ?_; refine AllReadyH.cons rfl (fun K hK => ?_) AllReadyH.nil
          go_simp; (go_at_call 91; refine (l01Plus_minus _ _ _ _ _ HB.out.2.2.2.2.1 HB.out.2.2.2.2.2 HB.out.1 HB.out.2.1).mono ?_; rintro en w4136uv ⟨rfl, hb2⟩); have HU := Lib.hid (HU.out.below hb2); have HV := Lib.hid (HV.out.below hb2); refine hK.out _ _ (below_after hb2 hHeld) (fun hHeld2 => ?_); clear hb2; (clear hHeld; rename _ => hHeld; clear hK K; have hHeld : Below wB.heap.size wB _ := hHeld); (try simp only [Act.put, List.getElem_toArray, List.getElem_cons_succ, List.getElem_cons_zero, List.setIfInBounds_toArray, List.set_cons_zero, List.set_cons_succ])
          refine wpAnyH_ready (rs := [16]) (by kernel_rfl) (by simp) ?_; refine AllReadyH.cons rfl (fun K hK => ?_) AllReadyH.nil
          obtain ⟨⟨a0, a1⟩, ⟨a2, a3⟩, a4⟩ := HU.out; go_simp; clear a0 a1 a2 a3 a4
          have HV := Lib.hid ((HV.out.far ⟨Gu, 0, none⟩ (.int .i64 (p2 - p0)) (by show Gv ≠ Gu; omega)).far ⟨Gu, 1, none⟩ (.int .i64 (p3 - p1)) (by show Gv ≠ Gu; omega)); have HU := Lib.hid ((HU.out.set0 (p2 - p0)).set1 (p3 - p1))
          refine hK.out _ _ (Below.setCell (Below.setCell hHeld (p := ⟨Gu, 0, none⟩) le_u _) (p := ⟨Gu, 1, none⟩) le_u _) (fun hHeld2 => ?_); (clear hHeld; rename _ => hHeld; clear hK K; have hHeld : Below wB.heap.size wB _ := hHeld); (try simp only [Act.put, List.getElem_toArray, List.getElem_cons_succ, List.getElem_cons_zero, List.setIfInBounds_toArray, List.set_cons_zero, List.set_cons_succ])
          refine wpAnyH_ready (rs := [17]) (by kernel_rfl) (by simp) ?_; refine AllReadyH.cons rfl (fun K hK => ?_) AllReadyH.nil
          obtain ⟨⟨a0, a1⟩, ⟨a2, a3⟩, a4⟩ := HV.out; go_simp; clear a0 a1 a2 a3 a4
          have HU := Lib.hid ((HU.out.far ⟨Gv, 0, none⟩ (.int .i64 (p4 - p0)) (by show Gu ≠ Gv; omega)).far ⟨Gv, 1, none⟩ (.int .i64 (p5 - p1)) (by show Gu ≠ Gv; omega)); have HV := Lib.hid ((HV.out.set0 (p4 - p0)).set1 (p5 - p1))
          refine hK.out _ _ (Below.setCell (Below.setCell hHeld (p := ⟨Gv, 0, none⟩) le_v _) (p := ⟨Gv, 1, none⟩) le_v _) (fun hHeld2 => ?_); (clear hHeld; rename _ => hHeld; clear hK K; have hHeld : Below wB.heap.size wB _ := hHeld); (try simp only [Act.put, List.getElem_toArray, List.getElem_cons_succ, List.getElem_cons_zero, List.setIfInBounds_toArray, List.set_cons_zero, List.set_cons_succ])
          refine wpAnyH_done (by kernel_rfl) ?_ _
          go_wp2_with fail
          go_meet
          exact ⟨_, _, rfl, rfl, hne, le_u, le_v, HU.out, HV.out, hHeld⟩
    · skip
      go_simp; obtain ⟨Gu, hGu⟩ : ∃ G, wD.heap.size = G := ⟨_, rfl⟩; have le_u : wB.heap.size ≤ Gu := by rw [← hGu]; exact Below.size hHeld
      have HU : Hid (Bk2 (wD.alloc (.cells #[.int .i64 0, .int .i64 0] 25)) Gu 0 0) := by rw [← hGu]; exact bk2_new wD 0 0 _
      refine hK.out _ _ (Below.alloc hHeld (Below.size hHeld) _) (fun hHeld2 => ?_); (clear hHeld; rename _ => hHeld; clear hK K; have hHeld : Below wB.heap.size wB _ := hHeld); (try simp only [Act.put, List.getElem_toArray, List.getElem_cons_succ, List.getElem_cons_zero, List.setIfInBounds_toArray, List.set_cons_zero, List.set_cons_succ])
      rw [hGu]; clear hGu; obtain ⟨w1u, hwx⟩ : ∃ wx, wD.alloc (.cells #[.int .i64 0, .int .i64 0] 25) = wx := ⟨_, rfl⟩; rw [hwx] at HU hHeld ⊢; clear hwx
      refine wpAnyH_ready (rs := [6, 15]) (by kernel_rfl) (by simp) ?_; refine AllReadyH.cons rfl (fun K hK => ?_) (AllReadyH.cons rfl (fun K hK => ?_) AllReadyH.nil)
      · skip
        go_simp; (go_at_call 91; refine (l01Plus_minus _ _ _ _ _ HB.out.2.2.1 HB.out.2.2.2.1 HB.out.1 HB.out.2.1).mono ?_; rintro en w26u ⟨rfl, hb2⟩); have HU := Lib.hid (HU.out.below hb2); refine hK.out _ _ (below_after hb2 hHeld) (fun hHeld2 => ?_); clear hb2; (clear hHeld; rename _ => hHeld; clear hK K; have hHeld : Below wB.heap.size wB _ := hHeld); (try simp only [Act.put, List.getElem_toArray, List.getElem_cons_succ, List.getElem_cons_zero, List.setIfInBounds_toArray, List.set_cons_zero, List.set_cons_succ])
        refine wpAnyH_ready (rs := [13, 15]) (by kernel_rfl) (by simp) ?_; refine AllReadyH.cons rfl (fun K hK => ?_) (AllReadyH.cons rfl (fun K hK => ?_) AllReadyH.nil)
        · skip
          go_simp; (go_at_call 91; refine (l01Plus_minus _ _ _ _ _ HB.out.2.2.2.2.1 HB.out.2.2.2.2.2 HB.out.1 HB.out.2.1).mono ?_; rintro en w3136u ⟨rfl, hb2⟩); have HU := Lib.hid (HU.out.below hb2); refine hK.out _ _ (below_after hb2 hHeld) (fun hHeld2 => ?_); clear hb2; (clear hHeld; rename _ => hHeld; clear hK K; have hHeld : Below wB.heap.size wB _ := hHeld); (try simp only [Act.put, List.getElem_toArray, List.getElem_cons_succ, List.getElem_cons_zero, List.setIfInBounds_toArray, List.set_cons_zero, List.set_cons_succ])
          refine wpAnyH_ready (rs := [15]) (by kernel_rfl) (by simp) ?_; refine AllReadyH.cons rfl (fun K hK => ?_) AllReadyH.nil
          go_simp; obtain ⟨Gv, hGv⟩ : ∃ G, w3136u.heap.size = G := ⟨_, rfl⟩; have le_v : wB.heap.size ≤ Gv := by rw [← hGv]; exact Below.size hHeld
          have HV : Hid (Bk2 (w3136u.alloc (.cells #[.int .i64 0, .int .i64 0] 25)) Gv 0 0) := by rw [← hGv]; exact bk2_new w3136u 0 0 _
          have hne : Gu ≠ Gv := by have := HU.out.2.2; omega
          have HU := Lib.hid (HU.out.below ((Below.refl _ _).alloc (Nat.le_refl _) (.cells #[.int .i64 0, .int .i64 0] 25)))
          refine hK.out _ _ (Below.alloc hHeld (Below.size hHeld) _) (fun hHeld2 => ?_); (clear hHeld; rename _ => hHeld; clear hK K; have hHeld : Below wB.heap.size wB _ := hHeld); (try simp only [Act.put, List.getElem_toArray, List.getElem_cons_succ, List.getElem_cons_zero, List.setIfInBounds_toArray, List.set_cons_zero, List.set_cons_succ])
          rw [hGv]; clear hGv; obtain ⟨w4136uv, hwx⟩ : ∃ wx, w3136u.alloc (.cells #[.int .i64 0, .int .i64 0] 25) = wx := ⟨_, rfl⟩; rw [hwx] at HV HU hHeld ⊢; clear hwx
          refine wpAnyH_ready (rs := [16]) (by kernel_rfl) (by simp) ?_; refine AllReadyH.cons rfl (fun K hK => ?_) AllReadyH.nil
          obtain ⟨⟨a0, a1⟩, ⟨a2, a3⟩, a4⟩ := HU.out; go_simp; clear a0 a1 a2 a3 a4
          have HV := Lib.hid ((HV.out.far ⟨Gu, 0, none⟩ (.int .i64 (p2 - p0)) (by show Gv ≠ Gu; omega)).far ⟨Gu, 1, none⟩ (.int .i64 (p3 - p1)) (by show Gv ≠ Gu; omega)); have HU := Lib.hid ((HU.out.set0 (p2 - p0)).set1 (p3 - p1))
          refine hK.out _ _ (Below.setCell (Below.setCell hHeld (p := ⟨Gu, 0, none⟩) le_u _) (p := ⟨Gu, 1, none⟩) le_u _) (fun hHeld2 => ?_); (clear hHeld; rename _ => hHeld; clear hK K; have hHeld : Below wB.heap.size wB _ := hHeld); (try simp only [Act.put, List.getElem_toArray, List.getElem_cons_succ, List.getElem_cons_zero, List.setIfInBounds_toArray, List.set_cons_zero, List.set_cons_succ])
          refine wpAnyH_ready (rs := [17]) (by kernel_rfl) (by simp) ?_; refine AllReadyH.cons rfl (fun K hK => ?_) AllReadyH.nil
          obtain ⟨⟨a0, a1⟩, ⟨a2, a3⟩, a4⟩ := HV.out; go_simp; clear a0 a1 a2 a3 a4
          have HU := Lib.hid ((HU.out.far ⟨Gv, 0, none⟩ (.int .i64 (p4 - p0)) (by show Gu ≠ Gv; omega)).far ⟨Gv, 1, none⟩ (.int .i64 (p5 - p1)) (by show Gu ≠ Gv; omega)); have HV := Lib.hid ((HV.out.set0 (p4 - p0)).set1 (p5 - p1))
          refine hK.out _ _ (Below.setCell (Below.setCell hHeld (p := ⟨Gv, 0, none⟩) le_v _) (p := ⟨Gv, 1, none⟩) le_v _) (fun hHeld2 => ?_); (clear hHeld; rename _ => hHeld; clear hK K; have hHeld : Below wB.heap.size wB _ := hHeld); (try simp only [Act.put, List.getElem_toArray, List.getElem_cons_succ, List.getElem_cons_zero, List.setIfInBounds_toArray, List.set_cons_zero, List.set_cons_succ])
          refine wpAnyH_done (by kernel_rfl) ?_ _
          go_wp2_with fail
          go_meet
          exact ⟨_, _, rfl, rfl, hne, le_u, le_v, HU.out, HV.out, hHeld⟩
        · skip
          go_simp; obtain ⟨Gv, hGv⟩ : ∃ G, w26u.heap.size = G := ⟨_, rfl⟩; have le_v : wB.heap.size ≤ Gv := by rw [← hGv]; exact Below.size hHeld
          have HV : Hid (Bk2 (w26u.alloc (.cells #[.int .i64 0, .int .i64 0] 25)) Gv 0 0) := by rw [← hGv]; exact bk2_new w26u 0 0 _
          have hne : Gu ≠ Gv := by have := HU.out.2.2; omega
          have HU := Lib.hid (HU.out.below ((Below.refl _ _).alloc (Nat.le_refl _) (.cells #[.int .i64 0, .int .i64 0] 25)))
          refine hK.out _ _ (Below.alloc hHeld (Below.size hHeld) _) (fun hHeld2 => ?_); (clear hHeld; rename _ => hHeld; clear hK K; have hHeld : Below wB.heap.size wB _ := hHeld); (try simp only [Act.put, List.getElem_toArray, List.getElem_cons_succ, List.getElem_cons_zero, List.setIfInBounds_toArray, List.set_cons_zero, List.set_cons_succ])
          rw [hGv]; clear hGv; obtain ⟨w36uv, hwx⟩ : ∃ wx, w26u.alloc (.cells #[.int .i64 0, .int .i64 0] 25) = wx := ⟨_, rfl⟩; rw [hwx] at HV HU hHeld ⊢; clear hwx
          refine wpAnyH_ready (rs := [13]) (by kernel_rfl) (by simp) ?_; refine AllReadyH.cons rfl (fun K hK => ?_) AllReadyH.nil
          go_simp; (go_at_call 91; refine (l01Plus_minus _ _ _ _ _ HB.out.2.2.2.2.1 HB.out.2.2.2.2.2 HB.out.1 HB.out.2.1).mono ?_; rintro en w4136uv ⟨rfl, hb2⟩); have HU := Lib.hid (HU.out.below hb2); have HV := Lib.hid (HV.out.below hb2); refine hK.out _ _ (below_after hb2 hHeld) (fun hHeld2 => ?_); clear hb2; (clear hHeld; rename _ => hHeld; clear hK K; have hHeld : Below wB.heap.size wB _ := hHeld); (try simp only [Act.put, List.getElem_toArray, List.getElem_cons_succ, List.getElem_cons_zero, List.setIfInBounds_toArray, List.set_cons_zero, List.set_cons_succ])
          refine wpAnyH_ready (rs := [16]) (by kernel_rfl) (by simp) ?_; refine AllReadyH.cons rfl (fun K hK => ?_) AllReadyH.nil
          obtain ⟨⟨a0, a1⟩, ⟨a2, a3⟩, a4⟩ := HU.out; go_simp; clear a0 a1 a2 a3 a4
          have HV := Lib.hid ((HV.out.far ⟨Gu, 0, none⟩ (.int .i64 (p2 - p0)) (by show Gv ≠ Gu; omega)).far ⟨Gu, 1, none⟩ (.int .i64 (p3 - p1)) (by show Gv ≠ Gu; omega)); have HU := Lib.hid ((HU.out.set0 (p2 - p0)).set1 (p3 - p1))
          refine hK.out _ _ (Below.setCell (Below.setCell hHeld (p := ⟨Gu, 0, none⟩) le_u _) (p := ⟨Gu, 1, none⟩) le_u _) (fun hHeld2 => ?_); (clear hHeld; rename _ => hHeld; clear hK K; have hHeld : Below wB.heap.size wB _ := hHeld); (try simp only [Act.put, List.getElem_toArray, List.getElem_cons_succ, List.getElem_cons_zero, List.setIfInBounds_toArray, List.set_cons_zero, List.set_cons_succ])
          refine wpAnyH_ready (rs := [17]) (by kernel_rfl) (by simp) ?_; refine AllReadyH.cons rfl (fun K hK => ?_) AllReadyH.nil
          obtain ⟨⟨a0, a1⟩, ⟨a2, a3⟩, a4⟩ := HV.out; go_simp; clear a0 a1 a2 a3 a4
          have HU := Lib.hid ((HU.out.far ⟨Gv, 0, none⟩ (.int .i64 (p4 - p0)) (by show Gu ≠ Gv; omega)).far ⟨Gv, 1, none⟩ (.int .i64 (p5 - p1)) (by show Gu ≠ Gv; omega)); have HV := Lib.hid ((HV.out.set0 (p4 - p0)).set1 (p5 - p1))
          refine hK.out _ _ (Below.setCell (Below.setCell hHeld (p := ⟨Gv, 0, none⟩) le_v _) (p := ⟨Gv, 1, none⟩) le_v _) (fun hHeld2 => ?_); (clear hHeld; rename _ => hHeld; clear hK K; have hHeld : Below wB.heap.size wB _ := hHeld); (try simp only [Act.put, List.getElem_toArray, List.getElem_cons_succ, List.getElem_cons_zero, List.setIfInBounds_toArray, List.set_cons_zero, List.set_cons_succ])
          refine wpAnyH_done (by kernel_rfl) ?_ _
          go_wp2_with fail
          go_meet
          exact ⟨_, _, rfl, rfl, hne, le_u, le_v, HU.out, HV.out, hHeld⟩
      · skip
        go_simp; obtain ⟨Gv, hGv⟩ : ∃ G, w1u.heap.size = G := ⟨_, rfl⟩; have le_v : wB.heap.size ≤ Gv := by rw [← hGv]; exact Below.size hHeld
        have HV : Hid (Bk2 (w1u.alloc (.cells #[.int .i64 0, .int .i64 0] 25)) Gv 0 0) := by rw [← hGv]; exact bk2_new w1u 0 0 _
        have hne : Gu ≠ Gv := by have := HU.out.2.2; omega
        have HU := Lib.hid (HU.out.below ((Below.refl _ _).alloc (Nat.le_refl _) (.cells #[.int .i64 0, .int .i64 0] 25)))
        refine hK.out _ _ (Below.alloc hHeld (Below.size hHeld) _) (fun hHeld2 => ?_); (clear hHeld; rename _ => hHeld; clear hK K; have hHeld : Below wB.heap.size wB _ := hHeld); (try simp only [Act.put, List.getElem_toArray, List.getElem_cons_succ, List.getElem_cons_zero, List.setIfInBounds_toArray, List.set_cons_zero, List.set_cons_succ])
        rw [hGv]; clear hGv; obtain ⟨w2uv, hwx⟩ : ∃ wx, w1u.alloc (.cells #[.int .i64 0, .int .i64 0] 25) = wx := ⟨_, rfl⟩; rw [hwx] at HV HU hHeld ⊢; clear hwx
        refine wpAnyH_ready (rs := [6]) (by kernel_rfl) (by simp) ?_; refine AllReadyH.cons rfl (fun K hK => ?_) AllReadyH.nil
        go_simp; (go_at_call 91; refine (l01Plus_minus _ _ _ _ _ HB.out.2.2.1 HB.out.2.2.2.1 HB.out.1 HB.out.2.1).mono ?_; rintro en w36uv ⟨rfl, hb2⟩); have HU := Lib.hid (HU.out.below hb2); have HV := Lib.hid (HV.out.below hb2); refine hK.out _ _ (below_after hb2 hHeld) (fun hHeld2 => ?_); clear hb2; (clear hHeld; rename _ => hHeld; clear hK K; have hHeld : Below wB.heap.size wB _ := hHeld); (try simp only [Act.put, List.getElem_toArray, List.getElem_cons_succ, List.getElem_cons_zero, List.setIfInBounds_toArray, List.set_cons_zero, List.set_cons_succ])
        refine wpAnyH_ready (rs := [13]) (by kernel_rfl) (by simp) ?_; refine AllReadyH.cons rfl (fun K hK => ?_) AllReadyH.nil
        go_simp; (go_at_call 91; refine (l01Plus_minus _ _ _ _ _ HB.out.2.2.2.2.1 HB.out.2.2.2.2.2 HB.out.1 HB.out.2.1).mono ?_; rintro en w4136uv ⟨rfl, hb2⟩); have HU := Lib.hid (HU.out.below hb2); have HV := Lib.hid (HV.out.below hb2); refine hK.out _ _ (below_after hb2 hHeld) (fun hHeld2 => ?_); clear hb2; (clear hHeld; rename _ => hHeld; clear hK K; have hHeld : Below wB.heap.size wB _ := hHeld); (try simp only [Act.put, List.getElem_toArray, List.getElem_cons_succ, List.getElem_cons_zero, List.setIfInBounds_toArray, List.set_cons_zero, List.set_cons_succ])
        refine wpAnyH_ready (rs := [16]) (by kernel_rfl) (by simp) ?_; refine AllReadyH.cons rfl (fun K hK => ?_) AllReadyH.nil
        obtain ⟨⟨a0, a1⟩, ⟨a2, a3⟩, a4⟩ := HU.out; go_simp; clear a0 a1 a2 a3 a4
        have HV := Lib.hid ((HV.out.far ⟨Gu, 0, none⟩ (.int .i64 (p2 - p0)) (by show Gv ≠ Gu; omega)).far ⟨Gu, 1, none⟩ (.int .i64 (p3 - p1)) (by show Gv ≠ Gu; omega)); have HU := Lib.hid ((HU.out.set0 (p2 - p0)).set1 (p3 - p1))
        refine hK.out _ _ (Below.setCell (Below.setCell hHeld (p := ⟨Gu, 0, none⟩) le_u _) (p := ⟨Gu, 1, none⟩) le_u _) (fun hHeld2 => ?_); (clear hHeld; rename _ => hHeld; clear hK K; have hHeld : Below wB.heap.size wB _ := hHeld); (try simp only [Act.put, List.getElem_toArray, List.getElem_cons_succ, List.getElem_cons_zero, List.setIfInBounds_toArray, List.set_cons_zero, List.set_cons_succ])
        refine wpAnyH_ready (rs := [17]) (by kernel_rfl) (by simp) ?_; refine AllReadyH.cons rfl (fun K hK => ?_) AllReadyH.nil
        obtain ⟨⟨a0, a1⟩, ⟨a2, a3⟩, a4⟩ := HV.out; go_simp; clear a0 a1 a2 a3 a4
        have HU := Lib.hid ((HU.out.far ⟨Gv, 0, none⟩ (.int .i64 (p4 - p0)) (by show Gu ≠ Gv; omega)).far ⟨Gv, 1, none⟩ (.int .i64 (p5 - p1)) (by show Gu ≠ Gv; omega)); have HV := Lib.hid ((HV.out.set0 (p4 - p0)).set1 (p5 - p1))
        refine hK.out _ _ (Below.setCell (Below.setCell hHeld (p := ⟨Gv, 0, none⟩) le_v _) (p := ⟨Gv, 1, none⟩) le_v _) (fun hHeld2 => ?_); (clear hHeld; rename _ => hHeld; clear hK K; have hHeld : Below wB.heap.size wB _ := hHeld); (try simp only [Act.put, List.getElem_toArray, List.getElem_cons_succ, List.getElem_cons_zero, List.setIfInBounds_toArray, List.set_cons_zero, List.set_cons_succ])
        refine wpAnyH_done (by kernel_rfl) ?_ _
        go_wp2_with fail
        go_meet
        exact ⟨_, _, rfl, rfl, hne, le_u, le_v, HU.out, HV.out, hHeld⟩
    · skip
      go_simp; obtain ⟨Gv, hGv⟩ : ∃ G, wD.heap.size = G := ⟨_, rfl⟩; have le_v : wB.heap.size ≤ Gv := by rw [← hGv]; exact Below.size hHeld
      have HV : Hid (Bk2 (wD.alloc (.cells #[.int .i64 0, .int .i64 0] 25)) Gv 0 0) := by rw [← hGv]; exact bk2_new wD 0 0 _
      refine hK.out _ _ (Below.alloc hHeld (Below.size hHeld) _) (fun hHeld2 => ?_); (clear hHeld; rename _ => hHeld; clear hK K; have hHeld : Below wB.heap.size wB _ := hHeld); (try simp only [Act.put, List.getElem_toArray, List.getElem_cons_succ, List.getElem_cons_zero, List.setIfInBounds_toArray, List.set_cons_zero, List.set_cons_succ])
      rw [hGv]; clear hGv; obtain ⟨w1v, hwx⟩ : ∃ wx, wD.alloc (.cells #[.int .i64 0, .int .i64 0] 25) = wx := ⟨_, rfl⟩; rw [hwx] at HV hHeld ⊢; clear hwx
      refine wpAnyH_ready (rs := [6, 14]) (by kernel_rfl) (by simp) ?_; refine AllReadyH.cons rfl (fun K hK => ?_) (AllReadyH.cons rfl (fun K hK => ?_) AllReadyH.nil)
      · skip
        go_simp; (go_at_call 91; refine (l01Plus_minus _ _ _ _ _ HB.out.2.2.1 HB.out.2.2.2.1 HB.out.1 HB.out.2.1).mono ?_; rintro en w26v ⟨rfl, hb2⟩); have HV := Lib.hid (HV.out.below hb2); refine hK.out _ _ (below_after hb2 hHeld) (fun hHeld2 => ?_); clear hb2; (clear hHeld; rename _ => hHeld; clear hK K; have hHeld : Below wB.heap.size wB _ := hHeld); (try simp only [Act.put, List.getElem_toArray, List.getElem_cons_succ, List.getElem_cons_zero, List.setIfInBounds_toArray, List.set_cons_zero, List.set_cons_succ])
        refine wpAnyH_ready (rs := [13, 14]) (by kernel_rfl) (by simp) ?_; refine AllReadyH.cons rfl (fun K hK => ?_) (AllReadyH.cons rfl (fun K hK => ?_) AllReadyH.nil)
        · skip
          go_simp; (go_at_call 91; refine (l01Plus_minus _ _ _ _ _ HB.out.2.2.2.2.1 HB.out.2.2.2.2.2 HB.out.1 HB.out.2.1).mono ?_; rintro en w3136v ⟨rfl, hb2⟩); have HV := Lib.hid (HV.out.below hb2); refine hK.out _ _ (below_after hb2 hHeld) (fun hHeld2 => ?_); clear hb2; (clear hHeld; rename _ => hHeld; clear hK K; have hHeld : Below wB.heap.size wB _ := hHeld); (try simp only [Act.put, List.getElem_toArray, List.getElem_cons_succ, List.getElem_cons_zero, List.setIfInBounds_toArray, List.set_cons_zero, List.set_cons_succ])
          refine wpAnyH_ready (rs := [14]) (by kernel_rfl) (by simp) ?_; refine AllReadyH.cons rfl (fun K hK => ?_) AllReadyH.nil
          go_simp; obtain ⟨Gu, hGu⟩ : ∃ G, w3136v.heap.size = G := ⟨_, rfl⟩; have le_u : wB.heap.size ≤ Gu := by rw [← hGu]; exact Below.size hHeld
          have HU : Hid (Bk2 (w3136v.alloc (.cells #[.int .i64 0, .int .i64 0] 25)) Gu 0 0) := by rw [← hGu]; exact bk2_new w3136v 0 0 _
          have hne : Gu ≠ Gv := by have := HV.out.2.2; omega
          have HV := Lib.hid (HV.out.below ((Below.refl _ _).alloc (Nat.le_refl _) (.cells #[.int .i64 0, .int .i64 0] 25)))
          refine hK.out _ _ (Below.alloc hHeld (Below.size hHeld) _) (fun hHeld2 => ?_); (clear hHeld; rename _ => hHeld; clear hK K; have hHeld : Below wB.heap.size wB _ := hHeld); (try simp only [Act.put, List.getElem_toArray, List.getElem_cons_succ, List.getElem_cons_zero, List.setIfInBounds_toArray, List.set_cons_zero, List.set_cons_succ])
          rw [hGu]; clear hGu; obtain ⟨w4136uv, hwx⟩ : ∃ wx, w3136v.alloc (.cells #[.int .i64 0, .int .i64 0] 25) = wx := ⟨_, rfl⟩; rw [hwx] at HU HV hHeld ⊢; clear hwx
          refine wpAnyH_ready (rs := [16]) (by kernel_rfl) (by simp) ?_; refine AllReadyH.cons rfl (fun K hK => ?_) AllReadyH.nil
          obtain ⟨⟨a0, a1⟩, ⟨a2, a3⟩, a4⟩ := HU.out; go_simp; clear a0 a1 a2 a3 a4
          have HV := Lib.hid ((HV.out.far ⟨Gu, 0, none⟩ (.int .i64 (p2 - p0)) (by show Gv ≠ Gu; omega)).far ⟨Gu, 1, none⟩ (.int .i64 (p3 - p1)) (by show Gv ≠ Gu; omega)); have HU := Lib.hid ((HU.out.set0 (p2 - p0)).set1 (p3 - p1))
          refine hK.out _ _ (Below.setCell (Below.setCell hHeld (p := ⟨Gu, 0, none⟩) le_u _) (p := ⟨Gu, 1, none⟩) le_u _) (fun hHeld2 => ?_); (clear hHeld; rename _ => hHeld; clear hK K; have hHeld : Below wB.heap.size wB _ := hHeld); (try simp only [Act.put, List.getElem_toArray, List.getElem_cons_succ, List.getElem_cons_zero, List.setIfInBounds_toArray, List.set_cons_zero, List.set_cons_succ])
          refine wpAnyH_ready (rs := [17]) (by kernel_rfl) (by simp) ?_; refine AllReadyH.cons rfl (fun K hK => ?_) AllReadyH.nil
          obtain ⟨⟨a0, a1⟩, ⟨a2, a3⟩, a4⟩ := HV.out; go_simp; clear a0 a1 a2 a3 a4
          have HU := Lib.hid ((HU.out.far ⟨Gv, 0, none⟩ (.int .i64 (p4 - p0)) (by show Gu ≠ Gv; omega)).far ⟨Gv, 1, none⟩ (.int .i64 (p5 - p1)) (by show Gu ≠ Gv; omega)); have HV := Lib.hid ((HV.out.set0 (p4 - p0)).set1 (p5 - p1))
          refine hK.out _ _ (Below.setCell (Below.setCell hHeld (p := ⟨Gv, 0, none⟩) le_v _) (p := ⟨Gv, 1, none⟩) le_v _) (fun hHeld2 => ?_); (clear hHeld; rename _ => hHeld; clear hK K; have hHeld : Below wB.heap.size wB _ := hHeld); (try simp only [Act.put, List.getElem_toArray, List.getElem_cons_succ, List.getElem_cons_zero, List.setIfInBounds_toArray, List.set_cons_zero, List.set_cons_succ])
          refine wpAnyH_done (by kernel_rfl) ?_ _
          go_wp2_with fail
          go_meet
          exact ⟨_, _, rfl, rfl, hne, le_u, le_v, HU.out, HV.out, hHeld⟩
        · skip
          go_simp; obtain ⟨Gu, hGu⟩ : ∃ G, w26v.heap.size = G := ⟨_, rfl⟩; have le_u : wB.heap.size ≤ Gu := by rw [← hGu]; exact Below.size hHeld
          have HU : Hid (Bk2 (w26v.alloc (.cells #[.int .i64 0, .int .i64 0] 25)) Gu 0 0) := by rw [← hGu]; exact bk2_new w26v 0 0 _
          have hne : Gu ≠ Gv := by have := HV.out.2.2; omega
          have HV := Lib.hid (HV.out.below ((Below.refl _ _).alloc (Nat.le_refl _) (.cells #[.int .i64 0, .int .i64 0] 25)))
          refine hK.out _ _ (Below.alloc hHeld (Below.size hHeld) _) (fun hHeld2 => ?_); (clear hHeld; rename _ => hHeld; clear hK K; have hHeld : Below wB.heap.size wB _ := hHeld); (try simp only [Act.put, List.getElem_toArray, List.getElem_cons_succ, List.getElem_cons_zero, List.setIfInBounds_toArray, List.set_cons_zero, List.set_cons_succ])
          rw [hGu]; clear hGu; obtain ⟨w36uv, hwx⟩ : ∃ wx, w26v.alloc (.cells #[.int .i64 0, .int .i64 0] 25) = wx := ⟨_, rfl⟩; rw [hwx] at HU HV hHeld ⊢; clear hwx
          refine wpAnyH_ready (rs := [13]) (by kernel_rfl) (by simp) ?_; refine AllReadyH.cons rfl (fun K hK => ?_) AllReadyH.nil
          go_simp; (go_at_call 91; refine (l01Plus_minus _ _ _ _ _ HB.out.2.2.2.2.1 HB.out.2.2.2.2.2 HB.out.1 HB.out.2.1).mono ?_; rintro en w4136uv ⟨rfl, hb2⟩); have HU := Lib.hid (HU.out.below hb2); have HV := Lib.hid (HV.out.below hb2); refine hK.out _ _ (below_after hb2 hHeld) (fun hHeld2 => ?_); clear hb2; (clear hHeld; rename _ => hHeld; clear hK K; have hHeld : Below wB.heap.size wB _ := hHeld); (try simp only [Act.put, List.getElem_toArray, List.getElem_cons_succ, List.getElem_cons_zero, List.setIfInBounds_toArray, List.set_cons_zero, List.set_cons_succ])
          refine wpAnyH_ready (rs := [16]) (by kernel_rfl) (by simp) ?_; refine AllReadyH.cons rfl (fun K hK => ?_) AllReadyH.nil
          obtain ⟨⟨a0, a1⟩, ⟨a2, a3⟩, a4⟩ := HU.out; go_simp; clear a0 a1 a2 a3 a4
          have HV := Lib.hid ((HV.out.far ⟨Gu, 0, none⟩ (.int .i64 (p2 - p0)) (by show Gv ≠ Gu; omega)).far ⟨Gu, 1, none⟩ (.int .i64 (p3 - p1)) (by show Gv ≠ Gu; omega)); have HU := Lib.hid ((HU.out.set0 (p2 - p0)).set1 (p3 - p1))
          refine hK.out _ _ (Below.setCell (Below.setCell hHeld (p := ⟨Gu, 0, none⟩) le_u _) (p := ⟨Gu, 1, none⟩) le_u _) (fun hHeld2 => ?_); (clear hHeld; rename _ => hHeld; clear hK K; have hHeld : Below wB.heap.size wB _ := hHeld); (try simp only [Act.put, List.getElem_toArray, List.getElem_cons_succ, List.getElem_cons_zero, List.setIfInBounds_toArray, List.set_cons_zero, List.set_cons_succ])
          refine wpAnyH_ready (rs := [17]) (by kernel_rfl) (by simp) ?_; refine AllReadyH.cons rfl (fun K hK => ?_) AllReadyH.nil
          obtain ⟨⟨a0, a1⟩, ⟨a2, a3⟩, a4⟩ := HV.out; go_simp; clear a0 a1 a2 a3 a4
          have HU := Lib.hid ((HU.out.far ⟨Gv, 0, none⟩ (.int .i64 (p4 - p0)) (by show Gu ≠ Gv; omega)).far ⟨Gv, 1, none⟩ (.int .i64 (p5 - p1)) (by show Gu ≠ Gv; omega)); have HV := Lib.hid ((HV.out.set0 (p4 - p0)).set1 (p5 - p1))
          refine hK.out _ _ (Below.setCell (Below.setCell hHeld (p := ⟨Gv, 0, none⟩) le_v _) (p := ⟨Gv, 1, none⟩) le_v _) (fun hHeld2 => ?_); (clear hHeld; rename _ => hHeld; clear hK K; have hHeld : Below wB.heap.size wB _ := hHeld); (try simp only [Act.put, List.getElem_toArray, List.getElem_cons_succ, List.getElem_cons_zero, List.setIfInBounds_toArray, List.set_cons_zero, List.set_cons_succ])
          refine wpAnyH_done (by kernel_rfl) ?_ _
          go_wp2_with fail
          go_meet
          exact ⟨_, _, rfl, rfl, hne, le_u, le_v, HU.out, HV.out, hHeld⟩
      · skip
        go_simp; obtain ⟨Gu, hGu⟩ : ∃ G, w1v.heap.size = G := ⟨_, rfl⟩; have le_u : wB.heap.size ≤ Gu := by rw [← hGu]; exact Below.size hHeld
        have HU : Hid (Bk2 (w1v.alloc (.cells #[.int .i64 0, .int .i64 0] 25)) Gu 0 0) := by rw [← hGu]; exact bk2_new w1v 0 0 _
        have hne : Gu ≠ Gv := by have := HV.out.2.2; omega
        have HV := Lib.hid (HV.out.below ((Below.refl _ _).alloc (Nat.le_refl _) (.cells #[.int .i64 0, .int .i64 0] 25)))
        refine hK.out _ _ (Below.alloc hHeld (Below.size hHeld) _) (fun hHeld2 => ?_); (clear hHeld; rename _ => hHeld; clear hK K; have hHeld : Below wB.heap.size wB _ := hHeld); (try simp only [Act.put, List.getElem_toArray, List.getElem_cons_succ, List.getElem_cons_zero, List.setIfInBounds_toArray, List.set_cons_zero, List.set_cons_succ])
        rw [hGu]; clear hGu; obtain ⟨w2uv, hwx⟩ : ∃ wx, w1v.alloc (.cells #[.int .i64 0, .int .i64 0] 25) = wx := ⟨_, rfl⟩; rw [hwx] at HU HV hHeld ⊢; clear hwx
        refine wpAnyH_ready (rs := [6]) (by kernel_rfl) (by simp) ?_; refine AllReadyH.cons rfl (fun K hK => ?_) AllReadyH.nil
        go_simp; (go_at_call 91; refine (l01Plus_minus _ _ _ _ _ HB.out.2.2.1 HB.out.2.2.2.1 HB.out.1 HB.out.2.1).mono ?_; rintro en w36uv ⟨rfl, hb2⟩); have HU := Lib.hid (HU.out.below hb2); have HV := Lib.hid (HV.out.below hb2); refine hK.out _ _ (below_after hb2 hHeld) (fun hHeld2 => ?_); clear hb2; (clear hHeld; rename _ => hHeld; clear hK K; have hHeld : Below wB.heap.size wB _ := hHeld); (try simp only [Act.put, List.getElem_toArray, List.getElem_cons_succ, List.getElem_cons_zero, List.setIfInBounds_toArray, List.set_cons_zero, List.set_cons_succ])
        refine wpAnyH_ready (rs := [13]) (by kernel_rfl) (by simp) ?_; refine AllReadyH.cons rfl (fun K hK => ?_) AllReadyH.nil
        go_simp; (go_at_call 91; refine (l01Plus_minus _ _ _ _ _ HB.out.2.2.2.2.1 HB.out.2.2.2.2.2 HB.out.1 HB.out.2.1).mono ?_; rintro en w4136uv ⟨rfl, hb2⟩); have HU := Lib.hid (HU.out.below hb2); have HV := Lib.hid (HV.out.below hb2); refine hK.out _ _ (below_after hb2 hHeld) (fun hHeld2 => ?_); clear hb2; (clear hHeld; rename _ => hHeld; clear hK K; have hHeld : Below wB.heap.size wB _ := hHeld); (try simp only [Act.put, List.getElem_toArray, List.getElem_cons_succ, List.getElem_cons_zero, List.setIfInBounds_toArray, List.set_cons_zero, List.set_cons_succ])
        refine wpAnyH_ready (rs := [16]) (by kernel_rfl) (by simp) ?_; refine AllReadyH.cons rfl (fun K hK => ?_) AllReadyH.nil
        obtain ⟨⟨a0, a1⟩, ⟨a2, a3⟩, a4⟩ := HU.out; go_simp; clear a0 a1 a2 a3 a4
        have HV := Lib.hid ((HV.out.far ⟨Gu, 0, none⟩ (.int .i64 (p2 - p0)) (by show Gv ≠ Gu; omega)).far ⟨Gu, 1, none⟩ (.int .i64 (p3 - p1)) (by show Gv ≠ Gu; omega)); have HU := Lib.hid ((HU.out.set0 (p2 - p0)).set1 (p3 - p1))
        refine hK.out _ _ (Below.setCell (Below.setCell hHeld (p := ⟨Gu, 0, none⟩) le_u _) (p := ⟨Gu, 1, none⟩) le_u _) (fun hHeld2 => ?_); (clear hHeld; rename _ => hHeld; clear hK K; have hHeld : Below wB.heap.size wB _ := hHeld); (try simp only [Act.put, List.getElem_toArray, List.getElem_cons_succ, List.getElem_cons_zero, List.setIfInBounds_toArray, List.set_cons_zero, List.set_cons_succ])
        refine wpAnyH_ready (rs := [17]) (by kernel_rfl) (by simp) ?_; refine AllReadyH.cons rfl (fun K hK => ?_) AllReadyH.nil
        obtain ⟨⟨a0, a1⟩, ⟨a2, a3⟩, a4⟩ := HV.out; go_simp; clear a0 a1 a2 a3 a4
        have HU := Lib.hid ((HU.out.far ⟨Gv, 0, none⟩ (.int .i64 (p4 - p0)) (by show Gu ≠ Gv; omega)).far ⟨Gv, 1, none⟩ (.int .i64 (p5 - p1)) (by show Gu ≠ Gv; omega)); have HV := Lib.hid ((HV.out.set0 (p4 - p0)).set1 (p5 - p1))
        refine hK.out _ _ (Below.setCell (Below.setCell hHeld (p := ⟨Gv, 0, none⟩) le_v _) (p := ⟨Gv, 1, none⟩) le_v _) (fun hHeld2 => ?_); (clear hHeld; rename _ => hHeld; clear hK K; have hHeld : Below wB.heap.size wB _ := hHeld); (try simp only [Act.put, List.getElem_toArray, List.getElem_cons_succ, List.getElem_cons_zero, List.setIfInBounds_toArray, List.set_cons_zero, List.set_cons_succ])
        refine wpAnyH_done (by kernel_rfl) ?_ _
        go_wp2_with fail
        go_meet
        exact ⟨_, _, rfl, rfl, hne, le_u, le_v, HU.out, HV.out, hHeld⟩

  case rest =>
    obtain ⟨Gu, Gv, rfl, rfl, hne, le_u, le_v, hU, hV, hBx⟩ := hcut
    obtain ⟨w1, rfl⟩ : ∃ w1, w1 = wc := ⟨_, rfl⟩
    obtain ⟨⟨u0, u1⟩, ⟨u2, u3⟩, u4⟩ := id hU
    go_upto_region 4 with (first | (go_at_call 98; refine (HP.out _).mono ?_; rintro e wn ⟨rfl, hb⟩; first | (have h2 := after_call2 hb hcl hfr hlt (by ((repeat' (first | (with_reducible exact Below.refl _ _) | (with_reducible refine Below.alloc ?_ ?_ _) | (with_reducible refine Below.setCell ?_ ?_ _) | (with_reducible refine Below.drew ?_) | (with_reducible refine below_drewN ?_ _) | (with_reducible assumption) | (with_reducible refine below_after (by with_reducible assumption) ?_) | go_size)); done)); obtain ⟨hclx, hfrx, hltx, hsz⟩ := after_call hb; (try simp only [World.size_alloc, World.size_setCell, World.size_drew] at hclx hfrx hltx hsz); (try (have hszl := Nat.lt_of_succ_le hsz)); obtain ⟨hcl, hfr, hlt⟩ := h2) | (obtain ⟨hcl, hfr, hlt, hsz⟩ := after_call hb; (try simp only [World.size_alloc, World.size_setCell, World.size_drew] at hcl hfr hlt hsz))))
    have hb1 : Below w1.heap.size w1 wn := by (repeat' (first | (with_reducible exact Below.refl _ _) | (with_reducible refine Below.alloc ?_ ?_ _) | (with_reducible refine Below.setCell ?_ ?_ _) | (with_reducible refine Below.drew ?_) | (with_reducible refine below_drewN ?_ _) | (with_reducible assumption) | (with_reducible refine below_after (by with_reducible assumption) ?_) | go_size))
    clear hb hcl hfr hlt hsz u0 u1 u2 u3
    obtain ⟨Gp, hGp⟩ : ∃ G, wn.heap.size = G := ⟨_, rfl⟩
    obtain ⟨wC, hwC⟩ : ∃ wC, wC = wn.alloc (.cells #[.int .i64 P1, .int .i64 P2] 25) := ⟨_, rfl⟩
    rw [← hwC, hGp]
    have hbC : Below w1.heap.size w1 wC := by rw [hwC]; exact hb1.alloc hb1.size _
    have hPp : Bk2 wC Gp P1 P2 := by rw [hwC, ← hGp]; exact bk2_new wn P1 P2 _
    have HY : Hid (∀ W, Below wC.heap.size wC W → Bk2 W Gv (p4 - p0) (p5 - p1) ∧ Bk2 W Gp P1 P2 ∧ Below wB.heap.size wB W) := by
      intro W hW
      exact ⟨hV.below (below_after hW hbC), hPp.below hW, hBx.trans ((below_after hW hbC).mono hBx.size)⟩
    have hpt := hPp.2.2
    clear hwC hGp hb1 hbC hPp hU hV hBx u4 le_u le_v hne
    go_cut [11] (fun v11 wx => ∃ Gs : Nat, v11 = .pointer (some ⟨Gs, 0, none⟩) ∧ wC.heap.size ≤ Gs ∧ Bk3 wx Gs L 0 0 ∧ Below wC.heap.size wC wx)
    case first =>
      refine wp_region_held_drew (S := fun W => Below wC.heap.size wC W) (by kernel_rfl) ?_ (fun hHeld => ?_); focus ((try dsimp only); (repeat' (first | (with_reducible exact Below.refl _ _) | (with_reducible refine Below.alloc ?_ ?_ _) | (with_reducible refine Below.setCell ?_ ?_ _) | (with_reducible refine Below.drew ?_) | (with_reducible refine below_drewN ?_ _) | (with_reducible assumption) | (with_reducible refine below_after (by with_reducible assumption) ?_) | go_size)))
      have hHeld : Below wC.heap.size wC _ := hHeld
      obtain ⟨wD, hwD⟩ : ∃ wD, wC.drew = wD := ⟨_, rfl⟩
      rw [hwD] at hHeld ⊢; clear hwD
      (refine wpAnyH_take (i := 0) (v := ?_) rfl (by kernel_rfl) (by kernel_rfl) (by kernel_rfl) (fun _ _ _ h => h) (Or.inl ⟨rfl, ?_⟩) (by assumption) ?_; rotate_left; focus (intro W hSw; (try dsimp only at hSw); obtain ⟨i0, i1, j0, j1, k0, k1, hz⟩ := HX.out _ (HY.out _ hSw).2.2; go_simp; try (with_reducible rfl))); (try simp only [Act.put, List.getElem_toArray, List.getElem_cons_succ, List.getElem_cons_zero, List.setIfInBounds_toArray, List.set_cons_zero, List.set_cons_succ])
      (refine wpAnyH_take (i := 1) (v := ?_) rfl (by kernel_rfl) (by kernel_rfl) (by kernel_rfl) (fun _ _ _ h => h) (Or.inl ⟨rfl, ?_⟩) (by assumption) ?_; rotate_left; focus (intro W hSw; (try dsimp only at hSw); obtain ⟨i0, i1, j0, j1, k0, k1, hz⟩ := HX.out _ (HY.out _ hSw).2.2; go_simp; try (with_reducible rfl))); (try simp only [Act.put, List.getElem_toArray, List.getElem_cons_succ, List.getElem_cons_zero, List.setIfInBounds_toArray, List.set_cons_zero, List.set_cons_succ])
      (refine wpAnyH_take (i := 2) (v := ?_) rfl (by kernel_rfl) (by kernel_rfl) (by kernel_rfl) (fun _ _ _ h => h) (Or.inl ⟨rfl, ?_⟩) (by assumption) ?_; rotate_left; focus (intro W hSw; (try dsimp only at hSw); obtain ⟨i0, i1, j0, j1, k0, k1, hz⟩ := HX.out _ (HY.out _ hSw).2.2; go_simp; try (with_reducible rfl))); (try simp only [Act.put, List.getElem_toArray, List.getElem_cons_succ, List.getElem_cons_zero, List.setIfInBounds_toArray, List.set_cons_zero, List.set_cons_succ])
      (refine wpAnyH_take (i := 3) (v := ?_) rfl (by kernel_rfl) (by kernel_rfl) (by kernel_rfl) (fun _ _ _ h => h) (Or.inl ⟨rfl, ?_⟩) (by assumption) ?_; rotate_left; focus (intro W hSw; (try dsimp only at hSw); obtain ⟨i0, i1, j0, j1, k0, k1, hz⟩ := HX.out _ (HY.out _ hSw).2.2; go_simp; try (with_reducible rfl))); (try simp only [Act.put, List.getElem_toArray, List.getElem_cons_succ, List.getElem_cons_zero, List.setIfInBounds_toArray, List.set_cons_zero, List.set_cons_succ])
      (refine wpAnyH_take (i := 4) (v := ?_) rfl (by kernel_rfl) (by kernel_rfl) (by kernel_rfl) (fun _ _ _ h => h) (Or.inl ⟨rfl, ?_⟩) (by assumption) ?_; rotate_left; focus (intro W hSw; (try dsimp only at hSw); obtain ⟨i0, i1, j0, j1, k0, k1, hz⟩ := HX.out _ (HY.out _ hSw).2.2; go_simp; try (with_reducible rfl))); (try simp only [Act.put, List.getElem_toArray, List.getElem_cons_succ, List.getElem_cons_zero, List.setIfInBounds_toArray, List.set_cons_zero, List.set_cons_succ])
      (refine wpAnyH_take (i := 5) (v := ?_) rfl (by kernel_rfl) (by kernel_rfl) (by kernel_rfl) (fun _ _ _ h => h) (Or.inl ⟨rfl, ?_⟩) (by assumption) ?_; rotate_left; focus (intro W hSw; (try dsimp only at hSw); obtain ⟨i0, i1, j0, j1, k0, k1, hz⟩ := HX.out _ (HY.out _ hSw).2.2; go_simp; try (with_reducible rfl))); (try simp only [Act.put, List.getElem_toArray, List.getElem_cons_succ, List.getElem_cons_zero, List.setIfInBounds_toArray, List.set_cons_zero, List.set_cons_succ])
      refine wpAnyH_ready (rs := [6, 8]) (by kernel_rfl) (by simp) ?_; refine AllReadyH.cons rfl (fun K hK => ?_) (AllReadyH.cons rfl (fun K hK => ?_) AllReadyH.nil)
      · skip
        go_simp; (go_at_call 93; refine (HL.out _).mono ?_; rintro en v6 ⟨rfl, hb2⟩); refine hK.out _ _ (below_after hb2 hHeld) (fun hHeld2 => ?_); clear hb2; (clear hHeld; rename _ => hHeld; clear hK K; have hHeld : Below wC.heap.size wC _ := hHeld); (try simp only [Act.put, List.getElem_toArray, List.getElem_cons_succ, List.getElem_cons_zero, List.setIfInBounds_toArray, List.set_cons_zero, List.set_cons_succ])
        (refine wpAnyH_take (i := 7) (v := ?_) rfl (by kernel_rfl) (by kernel_rfl) (by kernel_rfl) (fun _ _ _ h => h) (Or.inl ⟨rfl, ?_⟩) (by assumption) ?_; rotate_left; focus (intro W hSw; (try dsimp only at hSw); obtain ⟨i0, i1, j0, j1, k0, k1, hz⟩ := HX.out _ (HY.out _ hSw).2.2; go_simp; try (with_reducible rfl))); (try simp only [Act.put, List.getElem_toArray, List.getElem_cons_succ, List.getElem_cons_zero, List.setIfInBounds_toArray, List.set_cons_zero, List.set_cons_succ])
        refine wpAnyH_ready (rs := [8]) (by kernel_rfl) (by simp) ?_; refine AllReadyH.cons rfl (fun K hK => ?_) AllReadyH.nil
        go_simp; obtain ⟨Gs, hGs⟩ : ∃ G, v6.heap.size = G := ⟨_, rfl⟩; have le_s : wC.heap.size ≤ Gs := by rw [← hGs]; exact Below.size hHeld
        have HS3 : Hid (Bk3 (v6.alloc (.cells #[.int .i64 0, .int .i64 0, .int .i64 0] 49)) Gs 0 0 0) := by rw [← hGs]; exact bk3_new v6 0 0 0 _
        refine hK.out _ _ (Below.alloc hHeld (Below.size hHeld) _) (fun hHeld2 => ?_); (clear hHeld; rename _ => hHeld; clear hK K; have hHeld : Below wC.heap.size wC _ := hHeld); (try simp only [Act.put, List.getElem_toArray, List.getElem_cons_succ, List.getElem_cons_zero, List.setIfInBounds_toArray, List.set_cons_zero, List.set_cons_succ])
        rw [hGs]; clear hGs; obtain ⟨v6a, hwx⟩ : ∃ wx, v6.alloc (.cells #[.int .i64 0, .int .i64 0, .int .i64 0] 49) = wx := ⟨_, rfl⟩; rw [hwx] at HS3 hHeld ⊢; clear hwx
        refine wpAnyH_ready (rs := [9]) (by kernel_rfl) (by simp) ?_; refine AllReadyH.cons rfl (fun K hK => ?_) AllReadyH.nil
        obtain ⟨⟨a0, a1, a2⟩, ⟨a3, a4, a5⟩, a6⟩ := HS3.out; go_simp; clear a0 a1 a2 a3 a4 a5 a6
        have HS3 := Lib.hid (((HS3.out.set0 L).set1 0).set2 0)
        refine hK.out _ _ (Below.setCell (Below.setCell (Below.setCell hHeld (p := ⟨Gs, 0, none⟩) le_s _) (p := ⟨Gs, 1, none⟩) le_s _) (p := ⟨Gs, 2, none⟩) le_s _) (fun hHeld2 => ?_); (clear hHeld; rename _ => hHeld; clear hK K; have hHeld : Below wC.heap.size wC _ := hHeld); (try simp only [Act.put, List.getElem_toArray, List.getElem_cons_succ, List.getElem_cons_zero, List.setIfInBounds_toArray, List.set_cons_zero, List.set_cons_succ])
        refine wpAnyH_done (by kernel_rfl) ?_ _
        go_wp2_with fail
        go_meet
        exact ⟨_, rfl, le_s, HS3.out, hHeld⟩
      · skip
        go_simp; obtain ⟨Gs, hGs⟩ : ∃ G, wD.heap.size = G := ⟨_, rfl⟩; have le_s : wC.heap.size ≤ Gs := by rw [← hGs]; exact Below.size hHeld
        have HS3 : Hid (Bk3 (wD.alloc (.cells #[.int .i64 0, .int .i64 0, .int .i64 0] 49)) Gs 0 0 0) := by rw [← hGs]; exact bk3_new wD 0 0 0 _
        refine hK.out _ _ (Below.alloc hHeld (Below.size hHeld) _) (fun hHeld2 => ?_); (clear hHeld; rename _ => hHeld; clear hK K; have hHeld : Below wC.heap.size wC _ := hHeld); (try simp only [Act.put, List.getElem_toArray, List.getElem_cons_succ, List.getElem_cons_zero, List.setIfInBounds_toArray, List.set_cons_zero, List.set_cons_succ])
        rw [hGs]; clear hGs; obtain ⟨va, hwx⟩ : ∃ wx, wD.alloc (.cells #[.int .i64 0, .int .i64 0, .int .i64 0] 49) = wx := ⟨_, rfl⟩; rw [hwx] at HS3 hHeld ⊢; clear hwx
        refine wpAnyH_ready (rs := [6]) (by kernel_rfl) (by simp) ?_; refine AllReadyH.cons rfl (fun K hK => ?_) AllReadyH.nil
        go_simp; (go_at_call 93; refine (HL.out _).mono ?_; rintro en v6a ⟨rfl, hb2⟩); have HS3 := Lib.hid (HS3.out.below hb2); refine hK.out _ _ (below_after hb2 hHeld) (fun hHeld2 => ?_); clear hb2; (clear hHeld; rename _ => hHeld; clear hK K; have hHeld : Below wC.heap.size wC _ := hHeld); (try simp only [Act.put, List.getElem_toArray, List.getElem_cons_succ, List.getElem_cons_zero, List.setIfInBounds_toArray, List.set_cons_zero, List.set_cons_succ])
        (refine wpAnyH_take (i := 7) (v := ?_) rfl (by kernel_rfl) (by kernel_rfl) (by kernel_rfl) (fun _ _ _ h => h) (Or.inl ⟨rfl, ?_⟩) (by assumption) ?_; rotate_left; focus (intro W hSw; (try dsimp only at hSw); obtain ⟨i0, i1, j0, j1, k0, k1, hz⟩ := HX.out _ (HY.out _ hSw).2.2; go_simp; try (with_reducible rfl))); (try simp only [Act.put, List.getElem_toArray, List.getElem_cons_succ, List.getElem_cons_zero, List.setIfInBounds_toArray, List.set_cons_zero, List.set_cons_succ])
        refine wpAnyH_ready (rs := [9]) (by kernel_rfl) (by simp) ?_; refine AllReadyH.cons rfl (fun K hK => ?_) AllReadyH.nil
        obtain ⟨⟨a0, a1, a2⟩, ⟨a3, a4, a5⟩, a6⟩ := HS3.out; go_simp; clear a0 a1 a2 a3 a4 a5 a6
        have HS3 := Lib.hid (((HS3.out.set0 L).set1 0).set2 0)
        refine hK.out _ _ (Below.setCell (Below.setCell (Below.setCell hHeld (p := ⟨Gs, 0, none⟩) le_s _) (p := ⟨Gs, 1, none⟩) le_s _) (p := ⟨Gs, 2, none⟩) le_s _) (fun hHeld2 => ?_); (clear hHeld; rename _ => hHeld; clear hK K; have hHeld : Below wC.heap.size wC _ := hHeld); (try simp only [Act.put, List.getElem_toArray, List.getElem_cons_succ, List.getElem_cons_zero, List.setIfInBounds_toArray, List.set_cons_zero, List.set_cons_succ])
        refine wpAnyH_done (by kernel_rfl) ?_ _
        go_wp2_with fail
        go_meet
        exact ⟨_, rfl, le_s, HS3.out, hHeld⟩
    case rest =>
      obtain ⟨Gs, rfl, le_s, hS3, hB2⟩ := hcut
      obtain ⟨w2, rfl⟩ : ∃ w2, w2 = wc := ⟨_, rfl⟩
      have gsz : Gs ≤ w2.heap.size := Nat.le_of_lt hS3.2.2
      have HZ : Hid (∀ W, Below Gs w2 W → Below wC.heap.size wC W) := by
        intro W hW
        exact hB2.trans (hW.mono le_s)
      have HS3 := Lib.hid hS3
      clear hS3 hB2
      go_upto_region 5 with fail
      refine wp_region_held_drew (S := (fun W => Below Gs w2 W ∧ ∃ p z : Int, Bk3 W Gs L p z)) (by kernel_rfl) ⟨(Below.refl _ _).drew, _, _, HS3.out.below (Below.drew (Below.refl _ _))⟩ (fun hHeld => ?_)
      have HS3 := Lib.hid (HS3.out.below (Below.drew (Below.refl _ _)))
      have hHeld : (fun W => Below Gs w2 W ∧ ∃ p z : Int, Bk3 W Gs L p z) _ := hHeld
      obtain ⟨y0, hy0⟩ : ∃ y0, w2.drew = y0 := ⟨_, rfl⟩
      rw [hy0] at hHeld HS3 ⊢
      clear hy0
      (refine wpAnyH_take (i := 0) (v := ?_) rfl (by kernel_rfl) (by kernel_rfl) (by kernel_rfl) (fun _ _ _ h => h) (Or.inl ⟨rfl, ?_⟩) (by assumption) ?_; rotate_left; focus (intro W hSw; (try dsimp only at hSw); obtain ⟨hW, p, z, hb3⟩ := hSw; obtain ⟨⟨a0, a1, a2, a3, a4, a5⟩, _, az⟩ := H6.out.below (HY.out _ (HZ.out _ hW)).2.2; obtain ⟨⟨s0, s1, s2⟩, ⟨t0, t1, t2⟩, sz⟩ := hb3; go_simp; try (with_reducible rfl))); (try simp only [Act.put, List.getElem_toArray, List.getElem_cons_succ, List.getElem_cons_zero, List.setIfInBounds_toArray, List.set_cons_zero, List.set_cons_succ])
      (refine wpAnyH_take (i := 2) (v := ?_) rfl (by kernel_rfl) (by kernel_rfl) (by kernel_rfl) (fun _ _ _ h => h) (Or.inl ⟨rfl, ?_⟩) (by assumption) ?_; rotate_left; focus (intro W hSw; (try dsimp only at hSw); obtain ⟨hW, p, z, hb3⟩ := hSw; obtain ⟨⟨a0, a1, a2, a3, a4, a5⟩, _, az⟩ := H6.out.below (HY.out _ (HZ.out _ hW)).2.2; obtain ⟨⟨s0, s1, s2⟩, ⟨t0, t1, t2⟩, sz⟩ := hb3; go_simp; try (with_reducible rfl))); (try simp only [Act.put, List.getElem_toArray, List.getElem_cons_succ, List.getElem_cons_zero, List.setIfInBounds_toArray, List.set_cons_zero, List.set_cons_succ])
      (refine wpAnyH_take (i := 3) (v := ?_) rfl (by kernel_rfl) (by kernel_rfl) (by kernel_rfl) (fun _ _ _ h => h) (Or.inl ⟨rfl, ?_⟩) (by assumption) ?_; rotate_left; focus (intro W hSw; (try dsimp only at hSw); obtain ⟨hW, p, z, hb3⟩ := hSw; obtain ⟨⟨a0, a1, a2, a3, a4, a5⟩, _, az⟩ := H6.out.below (HY.out _ (HZ.out _ hW)).2.2; obtain ⟨⟨s0, s1, s2⟩, ⟨t0, t1, t2⟩, sz⟩ := hb3; go_simp; try (with_reducible rfl))); (try simp only [Act.put, List.getElem_toArray, List.getElem_cons_succ, List.getElem_cons_zero, List.setIfInBounds_toArray, List.set_cons_zero, List.set_cons_succ])
      refine wpAnyH_ready (rs := [1]) (by kernel_rfl) (by simp) ?_; refine AllReadyH.cons rfl (fun K hK => ?_) AllReadyH.nil
      go_simp; (go_at_call 66; refine (HA.out _).mono ?_; rintro en y1 ⟨rfl, hb2⟩); have HS3 := Lib.hid (HS3.out.below hb2); refine hK.out _ _ ⟨hHeld.1.trans (hb2.mono (Nat.le_trans gsz hHeld.1.size)), _, _, HS3.out⟩ (fun hHeld2 => ?_); clear hb2; (clear hHeld; rename _ => hHeld; clear hK K; have hHeld : (fun W => Below Gs w2 W ∧ ∃ p z : Int, Bk3 W Gs L p z) _ := hHeld); (try simp only [Act.put, List.getElem_toArray, List.getElem_cons_succ, List.getElem_cons_zero, List.setIfInBounds_toArray, List.set_cons_zero, List.set_cons_succ])
      (refine wpAnyH_take (i := 4) (v := ?_) rfl (by kernel_rfl) (by kernel_rfl) (by kernel_rfl) (fun _ _ _ h => h) (Or.inl ⟨rfl, ?_⟩) (by assumption) ?_; rotate_left; focus (intro W hSw; (try dsimp only at hSw); obtain ⟨hW, p, z, hb3⟩ := hSw; obtain ⟨⟨a0, a1, a2, a3, a4, a5⟩, _, az⟩ := H6.out.below (HY.out _ (HZ.out _ hW)).2.2; obtain ⟨⟨s0, s1, s2⟩, ⟨t0, t1, t2⟩, sz⟩ := hb3; go_simp; try (with_reducible rfl))); (try simp only [Act.put, List.getElem_toArray, List.getElem_cons_succ, List.getElem_cons_zero, List.setIfInBounds_toArray, List.set_cons_zero, List.set_cons_succ])
      (refine wpAnyH_take (i := 5) (v := ?_) rfl (by kernel_rfl) (by kernel_rfl) (by kernel_rfl) (fun _ _ _ h => h) (Or.inl ⟨rfl, ?_⟩) (by assumption) ?_; rotate_left; focus (intro W hSw; (try dsimp only at hSw); obtain ⟨hW, p, z, hb3⟩ := hSw; obtain ⟨⟨a0, a1, a2, a3, a4, a5⟩, _, az⟩ := H6.out.below (HY.out _ (HZ.out _ hW)).2.2; obtain ⟨⟨s0, s1, s2⟩, ⟨t0, t1, t2⟩, sz⟩ := hb3; go_simp; try (with_reducible rfl))); (try simp only [Act.put, List.getElem_toArray, List.getElem_cons_succ, List.getElem_cons_zero, List.setIfInBounds_toArray, List.set_cons_zero, List.set_cons_succ])
      refine wpAnyH_ready (rs := [6]) (by kernel_rfl) (by simp) ?_; refine AllReadyH.cons rfl (fun K hK => ?_) AllReadyH.nil
      obtain ⟨⟨a0, a1, a2⟩, ⟨a3, a4, a5⟩, a6⟩ := HS3.out; go_simp; clear a0 a1 a2 a3 a4 a5 a6
      have HS3 := Lib.hid (HS3.out.set2 H)
      refine hK.out _ _ ⟨hHeld.1.setCell (p := ⟨Gs, 2, none⟩) (Nat.le_refl _) _, _, _, HS3.out⟩ (fun hHeld2 => ?_); (clear hHeld; rename _ => hHeld; clear hK K; have hHeld : (fun W => Below Gs w2 W ∧ ∃ p z : Int, Bk3 W Gs L p z) _ := hHeld); (try simp only [Act.put, List.getElem_toArray, List.getElem_cons_succ, List.getElem_cons_zero, List.setIfInBounds_toArray, List.set_cons_zero, List.set_cons_succ])
      refine wpAnyH_done (by kernel_rfl) ?_ _
      go_wp2_with fail
      have hb6 := hHeld.1
      clear hHeld
      refine wp_region_held_drew (S := (fun W => Below Gs w2 W ∧ ∃ p : Int, Bk3 W Gs L p H)) (by kernel_rfl) ⟨hb6.drew, _, HS3.out.below (Below.drew (Below.refl _ _))⟩ (fun hHeld => ?_)
      clear hb6
      have HS3 := Lib.hid (HS3.out.below (Below.drew (Below.refl _ _)))
      have hHeld : (fun W => Below Gs w2 W ∧ ∃ p : Int, Bk3 W Gs L p H) _ := hHeld
      obtain ⟨y2, hy2⟩ : ∃ y2, (y1.setCell ⟨Gs, 2, none⟩ (.int .i64 H)).drew = y2 := ⟨_, rfl⟩
      rw [hy2] at hHeld HS3 ⊢
      clear hy2
      (refine wpAnyH_take (i := 0) (v := ?_) rfl (by kernel_rfl) (by kernel_rfl) (by kernel_rfl) (fun _ _ _ h => h) (Or.inl ⟨rfl, ?_⟩) (by assumption) ?_; rotate_left; focus (intro W hSw; (try dsimp only at hSw); obtain ⟨hW, p, hb3⟩ := hSw; obtain ⟨⟨⟨a0, a1⟩, _, az⟩, ⟨⟨b0, b1⟩, _, bz⟩, _⟩ := HY.out _ (HZ.out _ hW); obtain ⟨⟨s0, s1, s2⟩, ⟨t0, t1, t2⟩, sz⟩ := hb3; go_simp; try (with_reducible rfl))); (try simp only [Act.put, List.getElem_toArray, List.getElem_cons_succ, List.getElem_cons_zero, List.setIfInBounds_toArray, List.set_cons_zero, List.set_cons_succ])
      (refine wpAnyH_take (i := 1) (v := ?_) rfl (by kernel_rfl) (by kernel_rfl) (by kernel_rfl) (fun _ _ _ h => h) (Or.inl ⟨rfl, ?_⟩) (by assumption) ?_; rotate_left; focus (intro W hSw; (try dsimp only at hSw); obtain ⟨hW, p, hb3⟩ := hSw; obtain ⟨⟨⟨a0, a1⟩, _, az⟩, ⟨⟨b0, b1⟩, _, bz⟩, _⟩ := HY.out _ (HZ.out _ hW); obtain ⟨⟨s0, s1, s2⟩, ⟨t0, t1, t2⟩, sz⟩ := hb3; go_simp; try (with_reducible rfl))); (try simp only [Act.put, List.getElem_toArray, List.getElem_cons_succ, List.getElem_cons_zero, List.setIfInBounds_toArray, List.set_cons_zero, List.set_cons_succ])
      (refine wpAnyH_take (i := 2) (v := ?_) rfl (by kernel_rfl) (by kernel_rfl) (by kernel_rfl) (fun _ _ _ h => h) (Or.inl ⟨rfl, ?_⟩) (by assumption) ?_; rotate_left; focus (intro W hSw; (try dsimp only at hSw); obtain ⟨hW, p, hb3⟩ := hSw; obtain ⟨⟨⟨a0, a1⟩, _, az⟩, ⟨⟨b0, b1⟩, _, bz⟩, _⟩ := HY.out _ (HZ.out _ hW); obtain ⟨⟨s0, s1, s2⟩, ⟨t0, t1, t2⟩, sz⟩ := hb3; go_simp; try (with_reducible rfl))); (try simp only [Act.put, List.getElem_toArray, List.getElem_cons_succ, List.getElem_cons_zero, List.setIfInBounds_toArray, List.set_cons_zero, List.set_cons_succ])
      (refine wpAnyH_take (i := 3) (v := ?_) rfl (by kernel_rfl) (by kernel_rfl) (by kernel_rfl) (fun _ _ _ h => h) (Or.inl ⟨rfl, ?_⟩) (by assumption) ?_; rotate_left; focus (intro W hSw; (try dsimp only at hSw); obtain ⟨hW, p, hb3⟩ := hSw; obtain ⟨⟨⟨a0, a1⟩, _, az⟩, ⟨⟨b0, b1⟩, _, bz⟩, _⟩ := HY.out _ (HZ.out _ hW); obtain ⟨⟨s0, s1, s2⟩, ⟨t0, t1, t2⟩, sz⟩ := hb3; go_simp; try (with_reducible rfl))); (try simp only [Act.put, List.getElem_toArray, List.getElem_cons_succ, List.getElem_cons_zero, List.setIfInBounds_toArray, List.set_cons_zero, List.set_cons_succ])
      refine wpAnyH_ready (rs := [4]) (by kernel_rfl) (by simp) ?_; refine AllReadyH.cons rfl (fun K hK => ?_) AllReadyH.nil
      go_simp; (go_at_call 102; refine (HM.out _).mono ?_; rintro en y3 ⟨rfl, hb2⟩); have HS3 := Lib.hid (HS3.out.below hb2); refine hK.out _ _ ⟨hHeld.1.trans (hb2.mono (Nat.le_trans gsz hHeld.1.size)), _, HS3.out⟩ (fun hHeld2 => ?_); clear hb2; (clear hHeld; rename _ => hHeld; clear hK K; have hHeld : (fun W => Below Gs w2 W ∧ ∃ p : Int, Bk3 W Gs L p H) _ := hHeld); (try simp only [Act.put, List.getElem_toArray, List.getElem_cons_succ, List.getElem_cons_zero, List.setIfInBounds_toArray, List.set_cons_zero, List.set_cons_succ])
      refine wpAnyH_ready (rs := [5]) (by kernel_rfl) (by simp) ?_; refine AllReadyH.cons rfl (fun K hK => ?_) AllReadyH.nil
      go_simp; (go_at_call 95; refine (HD.out _).mono ?_; rintro en y4 ⟨rfl, hb2⟩); have HS3 := Lib.hid (HS3.out.below hb2); refine hK.out _ _ ⟨hHeld.1.trans (hb2.mono (Nat.le_trans gsz hHeld.1.size)), _, HS3.out⟩ (fun hHeld2 => ?_); clear hb2; (clear hHeld; rename _ => hHeld; clear hK K; have hHeld : (fun W => Below Gs w2 W ∧ ∃ p : Int, Bk3 W Gs L p H) _ := hHeld); (try simp only [Act.put, List.getElem_toArray, List.getElem_cons_succ, List.getElem_cons_zero, List.setIfInBounds_toArray, List.set_cons_zero, List.set_cons_succ])
      refine wpAnyH_ready (rs := [6]) (by kernel_rfl) (by simp) ?_; refine AllReadyH.cons rfl (fun K hK => ?_) AllReadyH.nil
      go_simp; (go_at_call 101; refine (HR.out _).mono ?_; rintro en y5 ⟨rfl, hb2⟩); have HS3 := Lib.hid (HS3.out.below hb2); refine hK.out _ _ ⟨hHeld.1.trans (hb2.mono (Nat.le_trans gsz hHeld.1.size)), _, HS3.out⟩ (fun hHeld2 => ?_); clear hb2; (clear hHeld; rename _ => hHeld; clear hK K; have hHeld : (fun W => Below Gs w2 W ∧ ∃ p : Int, Bk3 W Gs L p H) _ := hHeld); (try simp only [Act.put, List.getElem_toArray, List.getElem_cons_succ, List.getElem_cons_zero, List.setIfInBounds_toArray, List.set_cons_zero, List.set_cons_succ])
      (refine wpAnyH_take (i := 7) (v := ?_) rfl (by kernel_rfl) (by kernel_rfl) (by kernel_rfl) (fun _ _ _ h => h) (Or.inl ⟨rfl, ?_⟩) (by assumption) ?_; rotate_left; focus (intro W hSw; (try dsimp only at hSw); obtain ⟨hW, p, hb3⟩ := hSw; obtain ⟨⟨⟨a0, a1⟩, _, az⟩, ⟨⟨b0, b1⟩, _, bz⟩, _⟩ := HY.out _ (HZ.out _ hW); obtain ⟨⟨s0, s1, s2⟩, ⟨t0, t1, t2⟩, sz⟩ := hb3; go_simp; try (with_reducible rfl))); (try simp only [Act.put, List.getElem_toArray, List.getElem_cons_succ, List.getElem_cons_zero, List.setIfInBounds_toArray, List.set_cons_zero, List.set_cons_succ])
      refine wpAnyH_ready (rs := [8]) (by kernel_rfl) (by simp) ?_; refine AllReadyH.cons rfl (fun K hK => ?_) AllReadyH.nil
      obtain ⟨⟨a0, a1, a2⟩, ⟨a3, a4, a5⟩, a6⟩ := HS3.out; go_simp; clear a0 a1 a2 a3 a4 a5 a6
      have HS3 := Lib.hid (HS3.out.set1 R)
      refine hK.out _ _ ⟨hHeld.1.setCell (p := ⟨Gs, 1, none⟩) (Nat.le_refl _) _, _, HS3.out⟩ (fun hHeld2 => ?_); (clear hHeld; rename _ => hHeld; clear hK K; have hHeld : (fun W => Below Gs w2 W ∧ ∃ p : Int, Bk3 W Gs L p H) _ := hHeld); (try simp only [Act.put, List.getElem_toArray, List.getElem_cons_succ, List.getElem_cons_zero, List.setIfInBounds_toArray, List.set_cons_zero, List.set_cons_succ])
      refine wpAnyH_done (by kernel_rfl) ?_ _
      have hB9 := (HY.out _ (HZ.out _ hHeld.1)).2.2
      obtain ⟨⟨a0, a1, a2⟩, ⟨a3, a4, a5⟩, a6⟩ := HS3.out
      obtain ⟨⟨r0, r1, r2⟩, ⟨r3, r4, r5⟩, r6⟩ := H3.out.below hB9
      have hbF := below_after hB9 HBW.out
      clear hHeld hB9
      go_wp2
      refine bodyPost_ret (v := .agg #[.int .i64 L, .int .i64 R, .int .i64 H]) (by simp (maxDischargeDepth := 8) [results, Try.results82, go_sem, *]) rfl ?_
      exact ⟨rfl, by (repeat' (first | (with_reducible exact hbF) | (with_reducible refine Below.setCell ?_ ?_ _) | (with_reducible refine Below.alloc ?_ ?_ _) | (with_reducible refine Below.drew ?_) | go_size))⟩
end Go.Proofs.Ytcgaikedbhdbgaa
