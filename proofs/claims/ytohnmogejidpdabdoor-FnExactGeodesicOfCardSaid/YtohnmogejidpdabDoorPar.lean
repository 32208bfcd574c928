/-
  The parents of a fraction, in the model and in the program (own work).
-/
import Derived.Test.YtohnmogejidpdabDoorFr2
namespace Go.Proofs.YtohnmogejidpdabDoor
open Go.ChangeShapes Go.WideShapes Go.ChangeAt Go.RowKit
set_option linter.unusedVariables false
set_option maxRecDepth 100000
set_option linter.unusedSimpArgs false
set_option maxRecDepth 100000

/-- The left parent. -/
def plX (a b : Int) : Int := parX a (mateI a b).1 (mateI a b).2
def plY (a b : Int) : Int := parY b (mateI a b).2
theorem pl_bd {a b : Int} (hF : isFr a b = true) (hb : 2 ≤ b) : -2000000 ≤ plX a b ∧ plX a b ≤ 2000000 ∧ 1 ≤ plY a b ∧ plY a b < b ∧ a * plY a b - b * plX a b = 1 := by
  obtain ⟨_, _, h1, h2, h3⟩ := par_mate hF hb
  have hp := isFr_pt hF
  have hm := (mateI_ok hp (isFr_gcd hF)).2
  have m1 := isPt_c1 (x := (mateI a b).1) (y := (mateI a b).2) hm
  have c1 := isPt_c1 hp
  refine ⟨?_, ?_, h2, h3, h1⟩
  · unfold plX parX; split <;> omega
  · unfold plX parX; split <;> omega
set_option maxHeartbeats 3200000 in
theorem parentsOf_any (a b : Int) (w : World) (hF : isFr a b = true) (hb : 2 ≤ b) :
    Calls Tryd.prog 57 #[.agg #[.int .i64 a, .int .i64 b]] w fun e w' => e = .returned (.tuple #[.agg #[.int .i64 (plX a b), .int .i64 (plY a b)], .agg #[.int .i64 (a - plX a b), .int .i64 (b - plY a b)]]) ∧ Below w.heap.size w w' := by
  have hp := isFr_pt hF
  have hg := isFr_gcd hF
  have hmp := (mateI_ok hp hg).2
  have HM := Lib.hid (fun w => MateOf_mate a b w hp hg)
  have HB := Lib.hid (pl_bd hF hb)
  have c1 := isPt_c1 hp
  have c2 := isPt_c2 hp
  have m1 := isPt_c1 (x := (mateI a b).1) (y := (mateI a b).2) hmp
  have m2 := isPt_c2 (x := (mateI a b).1) (y := (mateI a b).2) hmp
  have hX : plX a b = parX a (mateI a b).1 (mateI a b).2 := rfl
  have hY : plY a b = parY b (mateI a b).2 := rfl
  generalize plX a b = X at *
  generalize plY a b = Y at *
  generalize (mateI a b).1 = U at *
  generalize (mateI a b).2 = V at *
  have HP2 : Hid (∀ w, Calls Tryd.prog 59 #[.agg #[.int .i64 a, .int .i64 b], .agg #[.int .i64 X, .int .i64 Y], .int .i64 (-1)] w fun e w' => e = .returned (.agg #[.int .i64 (a - X), .int .i64 (b - Y)]) ∧ Below w.heap.size w w') := fun w => plusTimes_minus a b X Y w ⟨by omega, by omega⟩ ⟨by omega, by omega⟩ ⟨by have := HB.out; omega, by have := HB.out; omega⟩ ⟨by have := HB.out; omega, by have := HB.out; omega⟩
  have HP1 : Hid (V < 0 → ∀ w, Calls Tryd.prog 59 #[.agg #[.int .i64 U, .int .i64 V], .agg #[.int .i64 a, .int .i64 b], .int .i64 1] w fun e w' => e = .returned (.agg #[.int .i64 X, .int .i64 Y]) ∧ Below w.heap.size w w') := fun hn w => by
    have := plusTimes_any U V a b 1 w ⟨by omega, by omega⟩ ⟨by omega, by omega⟩ ⟨by omega, by omega⟩ ⟨by omega, by omega⟩ ⟨by decide, by decide⟩
    rw [Int.one_mul, Int.one_mul] at this
    rw [hX, hY]
    unfold parX parY
    rw [if_pos hn, if_pos hn]
    exact this
  have HZ : Hid (¬ V < 0 → X = U ∧ Y = V) := fun hn => by
    rw [hX, hY]
    unfold parX parY
    rw [if_neg hn, if_neg hn]
    exact ⟨rfl, rfl⟩
  clear hF hp hg hmp c1 c2 m1 m2 hX hY
  by_cases hn : V < 0
  · have HP1 := Lib.hid (HP1.out hn)
    clear HZ
    have hs20 : w.heap.size < w.heap.size + 1 + 1 := (by omega); have hs30 : w.heap.size < w.heap.size + 1 + 1 + 1 := (by omega); have hs31 : w.heap.size + 1 < w.heap.size + 1 + 1 + 1 := (by omega); have hs40 : w.heap.size < w.heap.size + 1 + 1 + 1 + 1 := (by omega); have hs41 : w.heap.size + 1 < w.heap.size + 1 + 1 + 1 + 1 := (by omega); have hs42 : w.heap.size + 1 + 1 < w.heap.size + 1 + 1 + 1 + 1 := (by omega); have hs50 : w.heap.size < w.heap.size + 1 + 1 + 1 + 1 + 1 := (by omega); have hs51 : w.heap.size + 1 < w.heap.size + 1 + 1 + 1 + 1 + 1 := (by omega); have hs52 : w.heap.size + 1 + 1 < w.heap.size + 1 + 1 + 1 + 1 + 1 := (by omega); have hs53 : w.heap.size + 1 + 1 + 1 < w.heap.size + 1 + 1 + 1 + 1 + 1 := (by omega); have hs60 : w.heap.size < w.heap.size + 1 + 1 + 1 + 1 + 1 + 1 := (by omega); have hs61 : w.heap.size + 1 < w.heap.size + 1 + 1 + 1 + 1 + 1 + 1 := (by omega); have hs62 : w.heap.size + 1 + 1 < w.heap.size + 1 + 1 + 1 + 1 + 1 + 1 := (by omega); have hs63 : w.heap.size + 1 + 1 + 1 < w.heap.size + 1 + 1 + 1 + 1 + 1 + 1 := (by omega); have hs64 : w.heap.size + 1 + 1 + 1 + 1 < w.heap.size + 1 + 1 + 1 + 1 + 1 + 1 := (by omega)
    go_enter Tryd.func57, Tryd.ntmps57
    go_wp2_with fail
    go_at_call 56
    refine (HM.out _).mono ?_
    rintro e w1 ⟨rfl, hb⟩
    obtain ⟨hcl, hfr, hlt, hsz⟩ := after_call hb
    simp only [World.size_alloc, World.size_setCell, World.size_drew] at hcl hfr hlt hsz
    have HBW1 : Hid (Below w.heap.size w w1) := below_after hb (by (repeat' (first | (with_reducible exact Below.refl _ _) | (with_reducible refine Below.alloc ?_ ?_ _) | (with_reducible refine Below.setCell ?_ ?_ _) | (with_reducible refine Below.drew ?_) | (with_reducible refine below_drewN ?_ _) | (with_reducible assumption) | (with_reducible refine below_after (by with_reducible assumption) ?_) | go_size)))
    clear hb
    go_wp2_with fail
    go_at_call 59
    refine (HP1.out _).mono ?_
    rintro e w2 ⟨rfl, hb⟩
    have HBW2 : Hid (Below w.heap.size w w2) := below_after hb (Below.alloc HBW1.out (by omega) _)
    have lG : w.heap.size + 1 + 1 < w1.heap.size := by omega
    have m0 : w2.cell? ⟨w1.heap.size, 0, none⟩ = some (.int .i64 U) := (hb.cell (p := ⟨w1.heap.size, 0, none⟩) (by simp <;> omega)).trans (by go_cell)
    have m1 : w2.cell? ⟨w1.heap.size, 1, none⟩ = some (.int .i64 V) := (hb.cell (p := ⟨w1.heap.size, 1, none⟩) (by simp <;> omega)).trans (by go_cell)
    have n0 : w2.frozen? ⟨w1.heap.size, 0, none⟩ = false := by rw [(bcell hb).2 _ _ (by simp <;> omega)]; go_cell
    have n1 : w2.frozen? ⟨w1.heap.size, 1, none⟩ = false := by rw [(bcell hb).2 _ _ (by simp <;> omega)]; go_cell
    have q0 : w2.cell? ⟨w.heap.size, 0, none⟩ = some (.int .i64 a) := (hb.cell (p := ⟨w.heap.size, 0, none⟩) (by simp <;> omega)).trans (by go_cell)
    have q1 : w2.cell? ⟨w.heap.size, 1, none⟩ = some (.int .i64 b) := (hb.cell (p := ⟨w.heap.size, 1, none⟩) (by simp <;> omega)).trans (by go_cell)
    have l0 : w2.cell? ⟨w.heap.size + 1, 0, none⟩ = some (.int .i64 0) := (hb.cell (p := ⟨w.heap.size + 1, 0, none⟩) (by simp <;> omega)).trans (by go_cell)
    have l1 : w2.cell? ⟨w.heap.size + 1, 1, none⟩ = some (.int .i64 0) := (hb.cell (p := ⟨w.heap.size + 1, 1, none⟩) (by simp <;> omega)).trans (by go_cell)
    have r0 : w2.cell? ⟨w.heap.size + 1 + 1, 0, none⟩ = some (.int .i64 0) := (hb.cell (p := ⟨w.heap.size + 1 + 1, 0, none⟩) (by simp <;> omega)).trans (by go_cell)
    have r1 : w2.cell? ⟨w.heap.size + 1 + 1, 1, none⟩ = some (.int .i64 0) := (hb.cell (p := ⟨w.heap.size + 1 + 1, 1, none⟩) (by simp <;> omega)).trans (by go_cell)
    have fl0 : w2.frozen? ⟨w.heap.size + 1, 0, none⟩ = false := by rw [(bcell hb).2 _ _ (by simp <;> omega)]; go_cell
    have fl1 : w2.frozen? ⟨w.heap.size + 1, 1, none⟩ = false := by rw [(bcell hb).2 _ _ (by simp <;> omega)]; go_cell
    have fr0 : w2.frozen? ⟨w.heap.size + 1 + 1, 0, none⟩ = false := by rw [(bcell hb).2 _ _ (by simp <;> omega)]; go_cell
    have fr1 : w2.frozen? ⟨w.heap.size + 1 + 1, 1, none⟩ = false := by rw [(bcell hb).2 _ _ (by simp <;> omega)]; go_cell
    have lt2 : w1.heap.size < w2.heap.size := by have := hb.size; simp at this; omega
    clear hb hcl hfr hlt
    go_upto_region 4 with fail
    obtain ⟨w3, hw3⟩ : ∃ w3, (w2.setCell ⟨w1.heap.size, 0, none⟩ (.int .i64 X)).setCell ⟨w1.heap.size, 1, none⟩ (.int .i64 Y) = w3 := ⟨_, rfl⟩
    have e1 : ¬ w.heap.size = w1.heap.size := by omega
    have e2 : ¬ w.heap.size + 1 = w1.heap.size := by omega
    have e3 : ¬ w.heap.size + 1 + 1 = w1.heap.size := by omega
    have e4 : ¬ w1.heap.size = w.heap.size := by omega
    have e5 : ¬ w1.heap.size = w.heap.size + 1 := by omega
    have e6 : ¬ w1.heap.size = w.heap.size + 1 + 1 := by omega
    have m0 : w3.cell? ⟨w1.heap.size, 0, none⟩ = some (.int .i64 X) := by rw [← hw3]; go_cell
    have m1 : w3.cell? ⟨w1.heap.size, 1, none⟩ = some (.int .i64 Y) := by rw [← hw3]; go_cell
    have q0 : w3.cell? ⟨w.heap.size, 0, none⟩ = some (.int .i64 a) := by rw [← hw3]; go_cell
    have q1 : w3.cell? ⟨w.heap.size, 1, none⟩ = some (.int .i64 b) := by rw [← hw3]; go_cell
    have l0 : w3.cell? ⟨w.heap.size + 1, 0, none⟩ = some (.int .i64 0) := by rw [← hw3]; go_cell
    have l1 : w3.cell? ⟨w.heap.size + 1, 1, none⟩ = some (.int .i64 0) := by rw [← hw3]; go_cell
    have r0 : w3.cell? ⟨w.heap.size + 1 + 1, 0, none⟩ = some (.int .i64 0) := by rw [← hw3]; go_cell
    have r1 : w3.cell? ⟨w.heap.size + 1 + 1, 1, none⟩ = some (.int .i64 0) := by rw [← hw3]; go_cell
    have fl0 : w3.frozen? ⟨w.heap.size + 1, 0, none⟩ = false := by rw [← hw3]; simpa using fl0
    have fl1 : w3.frozen? ⟨w.heap.size + 1, 1, none⟩ = false := by rw [← hw3]; simpa using fl1
    have fr0 : w3.frozen? ⟨w.heap.size + 1 + 1, 0, none⟩ = false := by rw [← hw3]; simpa using fr0
    have fr1 : w3.frozen? ⟨w.heap.size + 1 + 1, 1, none⟩ = false := by rw [← hw3]; simpa using fr1
    have lt3 : w1.heap.size < w3.heap.size := by rw [← hw3]; simpa using lt2
    have HBW3 : Hid (Below w.heap.size w w3) := by
      show Below w.heap.size w w3
      rw [← hw3]
      exact Below.setCell (Below.setCell HBW2.out (by show w.heap.size ≤ w1.heap.size; omega) _) (by show w.heap.size ≤ w1.heap.size; omega) _
    have z0 : w.heap.size < w3.heap.size := by omega
    have z1 : w.heap.size + 1 < w3.heap.size := by omega
    have z2 : w.heap.size + 1 + 1 < w3.heap.size := by omega
    rw [hw3]
    clear hw3 n0 n1 lt2
    go_region_held3 (fun W => W.cell? ⟨w.heap.size, 0, none⟩ = some (.int .i64 a) ∧ W.cell? ⟨w.heap.size, 1, none⟩ = some (.int .i64 b) ∧ W.cell? ⟨w1.heap.size, 0, none⟩ = some (.int .i64 X) ∧ W.cell? ⟨w1.heap.size, 1, none⟩ = some (.int .i64 Y) ∧ w.heap.size < W.heap.size ∧ w1.heap.size < W.heap.size) (first | (go_keep; done) | ((repeat' apply And.intro) <;> first | (go_keep; done) | (go_cell; done) | (refine (Below.cell (B := w.heap.size + 1 + 1) ?_ ?_).trans ?_; focus (repeat' (first | (with_reducible refine Below.alloc ?_ ?_ _) | (with_reducible refine Below.setCell ?_ ?_ _) | (with_reducible refine Below.drew ?_) | (with_reducible exact Below.refl _ _) | (first | omega | (simp only [World.size_alloc, World.size_drew, World.size_setCell]; omega) | (simp; omega)))); focus (first | omega | (simp only [World.size_alloc, World.size_drew, World.size_setCell]; omega) | (simp; omega)); first | (go_keep; done) | ((refine (Below.cell (by with_reducible assumption) ?_).trans ?_) <;> first | (go_keep; done) | (first | omega | (simp only [World.size_alloc, World.size_drew, World.size_setCell]; omega) | (simp; omega)))) | ((refine (Below.cell (by with_reducible assumption) ?_).trans ?_) <;> first | (go_keep; done) | (simp only [World.size_alloc, World.size_drew, World.size_setCell]; omega) | omega) | (simp only [World.size_alloc, World.size_drew, World.size_setCell]; omega) | omega)) (first | (go_at_call 59; refine (HP2.out _).mono ?_; rintro e wn ⟨rfl, hb⟩; first | (have h2 := after_call2 hb hcl hfr hlt (by ((repeat' (first | (with_reducible exact Below.refl _ _) | (with_reducible refine Below.alloc ?_ ?_ _) | (with_reducible refine Below.setCell ?_ ?_ _) | (with_reducible refine Below.drew ?_) | (with_reducible refine below_drewN ?_ _) | (with_reducible assumption) | (with_reducible refine below_after (by with_reducible assumption) ?_) | go_size)); done)); obtain ⟨hclx, hfrx, hltx, hsz⟩ := after_call hb; (try simp only [World.size_alloc, World.size_setCell, World.size_drew] at hclx hfrx hltx hsz); (try (have hszl := Nat.lt_of_succ_le hsz)); obtain ⟨hcl, hfr, hlt⟩ := h2) | (obtain ⟨hcl, hfr, hlt, hsz⟩ := after_call hb; (try simp only [World.size_alloc, World.size_setCell, World.size_drew] at hcl hfr hlt hsz))))
    have hbE := HBW3.out
    go_wp2
    refine bodyPost_ret (v := .tuple #[.agg #[.int .i64 X, .int .i64 Y], .agg #[.int .i64 (a - X), .int .i64 (b - Y)]]) (by simp (maxDischargeDepth := 8) [results, Tryd.results57, go_sem, *]) rfl ?_
    exact ⟨rfl, by (repeat' (first | (with_reducible exact Below.refl _ _) | (with_reducible refine Below.alloc ?_ ?_ _) | (with_reducible refine Below.setCell ?_ ?_ _) | (with_reducible refine Below.drew ?_) | (with_reducible refine below_drewN ?_ _) | (with_reducible assumption) | (with_reducible refine below_after (by with_reducible assumption) ?_) | go_size))⟩
  · obtain ⟨rfl, rfl⟩ := HZ.out hn
    clear HP1 HZ
    have hs20 : w.heap.size < w.heap.size + 1 + 1 := (by omega); have hs30 : w.heap.size < w.heap.size + 1 + 1 + 1 := (by omega); have hs31 : w.heap.size + 1 < w.heap.size + 1 + 1 + 1 := (by omega); have hs40 : w.heap.size < w.heap.size + 1 + 1 + 1 + 1 := (by omega); have hs41 : w.heap.size + 1 < w.heap.size + 1 + 1 + 1 + 1 := (by omega); have hs42 : w.heap.size + 1 + 1 < w.heap.size + 1 + 1 + 1 + 1 := (by omega); have hs50 : w.heap.size < w.heap.size + 1 + 1 + 1 + 1 + 1 := (by omega); have hs51 : w.heap.size + 1 < w.heap.size + 1 + 1 + 1 + 1 + 1 := (by omega); have hs52 : w.heap.size + 1 + 1 < w.heap.size + 1 + 1 + 1 + 1 + 1 := (by omega); have hs53 : w.heap.size + 1 + 1 + 1 < w.heap.size + 1 + 1 + 1 + 1 + 1 := (by omega); have hs60 : w.heap.size < w.heap.size + 1 + 1 + 1 + 1 + 1 + 1 := (by omega); have hs61 : w.heap.size + 1 < w.heap.size + 1 + 1 + 1 + 1 + 1 + 1 := (by omega); have hs62 : w.heap.size + 1 + 1 < w.heap.size + 1 + 1 + 1 + 1 + 1 + 1 := (by omega); have hs63 : w.heap.size + 1 + 1 + 1 < w.heap.size + 1 + 1 + 1 + 1 + 1 + 1 := (by omega); have hs64 : w.heap.size + 1 + 1 + 1 + 1 < w.heap.size + 1 + 1 + 1 + 1 + 1 + 1 := (by omega)
    go_enter Tryd.func57, Tryd.ntmps57
    go_wp2_with fail
    go_at_call 56
    refine (HM.out _).mono ?_
    rintro e w1 ⟨rfl, hb⟩
    obtain ⟨hcl, hfr, hlt, hsz⟩ := after_call hb
    simp only [World.size_alloc, World.size_setCell, World.size_drew] at hcl hfr hlt hsz
    go_wp2_with fail
    go_region_held3 (fun W => W.cell? ⟨w.heap.size, 0, none⟩ = some (.int .i64 a) ∧ W.cell? ⟨w.heap.size, 1, none⟩ = some (.int .i64 b) ∧ W.cell? ⟨w1.heap.size, 0, none⟩ = some (.int .i64 X) ∧ W.cell? ⟨w1.heap.size, 1, none⟩ = some (.int .i64 Y) ∧ w.heap.size < W.heap.size ∧ w1.heap.size < W.heap.size) (first | (go_keep; done) | ((repeat' apply And.intro) <;> first | (go_keep; done) | (go_cell; done) | (refine (Below.cell (B := w.heap.size + 1 + 1) ?_ ?_).trans ?_; focus (repeat' (first | (with_reducible refine Below.alloc ?_ ?_ _) | (with_reducible refine Below.setCell ?_ ?_ _) | (with_reducible refine Below.drew ?_) | (with_reducible exact Below.refl _ _) | (first | omega | (simp only [World.size_alloc, World.size_drew, World.size_setCell]; omega) | (simp; omega)))); focus (first | omega | (simp only [World.size_alloc, World.size_drew, World.size_setCell]; omega) | (simp; omega)); first | (go_keep; done) | ((refine (Below.cell (by with_reducible assumption) ?_).trans ?_) <;> first | (go_keep; done) | (first | omega | (simp only [World.size_alloc, World.size_drew, World.size_setCell]; omega) | (simp; omega)))) | ((refine (Below.cell (by with_reducible assumption) ?_).trans ?_) <;> first | (go_keep; done) | (simp only [World.size_alloc, World.size_drew, World.size_setCell]; omega) | omega) | (simp only [World.size_alloc, World.size_drew, World.size_setCell]; omega) | omega)) (first | (go_at_call 59; refine (HP2.out _).mono ?_; rintro e wn ⟨rfl, hb⟩; first | (have h2 := after_call2 hb hcl hfr hlt (by ((repeat' (first | (with_reducible exact Below.refl _ _) | (with_reducible refine Below.alloc ?_ ?_ _) | (with_reducible refine Below.setCell ?_ ?_ _) | (with_reducible refine Below.drew ?_) | (with_reducible refine below_drewN ?_ _) | (with_reducible assumption) | (with_reducible refine below_after (by with_reducible assumption) ?_) | go_size)); done)); obtain ⟨hclx, hfrx, hltx, hsz⟩ := after_call hb; (try simp only [World.size_alloc, World.size_setCell, World.size_drew] at hclx hfrx hltx hsz); (try (have hszl := Nat.lt_of_succ_le hsz)); obtain ⟨hcl, hfr, hlt⟩ := h2) | (obtain ⟨hcl, hfr, hlt, hsz⟩ := after_call hb; (try simp only [World.size_alloc, World.size_setCell, World.size_drew] at hcl hfr hlt hsz))))
    go_wp2
    refine bodyPost_ret (v := .tuple #[.agg #[.int .i64 X, .int .i64 Y], .agg #[.int .i64 (a - X), .int .i64 (b - Y)]]) (by simp (maxDischargeDepth := 8) [results, Tryd.results57, go_sem, *]) rfl ?_
    exact ⟨rfl, by (repeat' (first | (with_reducible exact Below.refl _ _) | (with_reducible refine Below.alloc ?_ ?_ _) | (with_reducible refine Below.setCell ?_ ?_ _) | (with_reducible refine Below.drew ?_) | (with_reducible refine below_drewN ?_ _) | (with_reducible assumption) | (with_reducible refine below_after (by with_reducible assumption) ?_) | go_size))⟩
set_option maxHeartbeats 3200000 in
theorem l05Parents_any (a b : Int) (w : World) (hF : isFr a b = true) (hb : 2 ≤ b) :
    Calls Tryd.prog 26 #[.agg #[.int .i64 a, .int .i64 b]] w fun e w' => e = .returned (.tuple #[.agg #[.int .i64 (plX a b), .int .i64 (plY a b)], .agg #[.int .i64 (a - plX a b), .int .i64 (b - plY a b)]]) ∧ Below w.heap.size w w' := by
  have hp := isFr_pt hF
  have hg := isFr_gcd hF
  have hp' : isPt (b, a) = true := by simp only [isPt, Bool.and_eq_true] at hp ⊢; exact ⟨hp.2, hp.1⟩
  have hg' : gcdI b a = 1 := by unfold gcdI at hg ⊢; rw [Int.gcd_comm]; exact hg
  have hmp := (mateI_ok hp' hg').2
  have HM := Lib.hid (fun w => l01Base_mate b a w hp' hg')
  obtain ⟨hX, hY, _⟩ := par_mate hF hb
  have c1 := isPt_c1 hp
  have c2 := isPt_c2 hp
  have m1 := isPt_c1 (x := (mateI b a).1) (y := (mateI b a).2) hmp
  have m2 := isPt_c2 (x := (mateI b a).1) (y := (mateI b a).2) hmp
  have eX : plX a b = a - (mateI b a).2 := hX
  have eY : plY a b = b - (mateI b a).1 := hY
  rw [eX, eY]
  generalize (mateI b a).1 = U at *
  generalize (mateI b a).2 = V at *
  have HP : Hid (∀ w, Calls Tryd.prog 14 #[.agg #[.int .i64 a, .int .i64 b], .agg #[.int .i64 V, .int .i64 U], .int .i64 (-1)] w fun e w' => e = .returned (.agg #[.int .i64 (a - V), .int .i64 (b - U)]) ∧ Below w.heap.size w w') := fun w => l01Plus_minus a b V U w ⟨by omega, by omega⟩ ⟨by omega, by omega⟩ ⟨by omega, by omega⟩ ⟨by omega, by omega⟩
  have e1 : a - (a - V) = V := by omega
  have e2 : b - (b - U) = U := by omega
  rw [e1, e2]
  clear hF hp hg hp' hg' hmp hX hY eX eY c1 c2 m1 m2 e1 e2 hb
  have hs20 : w.heap.size < w.heap.size + 1 + 1 := (by omega); have hs30 : w.heap.size < w.heap.size + 1 + 1 + 1 := (by omega); have hs31 : w.heap.size + 1 < w.heap.size + 1 + 1 + 1 := (by omega); have hs40 : w.heap.size < w.heap.size + 1 + 1 + 1 + 1 := (by omega); have hs41 : w.heap.size + 1 < w.heap.size + 1 + 1 + 1 + 1 := (by omega); have hs42 : w.heap.size + 1 + 1 < w.heap.size + 1 + 1 + 1 + 1 := (by omega); have hs50 : w.heap.size < w.heap.size + 1 + 1 + 1 + 1 + 1 := (by omega); have hs51 : w.heap.size + 1 < w.heap.size + 1 + 1 + 1 + 1 + 1 := (by omega); have hs52 : w.heap.size + 1 + 1 < w.heap.size + 1 + 1 + 1 + 1 + 1 := (by omega); have hs53 : w.heap.size + 1 + 1 + 1 < w.heap.size + 1 + 1 + 1 + 1 + 1 := (by omega); have hs60 : w.heap.size < w.heap.size + 1 + 1 + 1 + 1 + 1 + 1 := (by omega); have hs61 : w.heap.size + 1 < w.heap.size + 1 + 1 + 1 + 1 + 1 + 1 := (by omega); have hs62 : w.heap.size + 1 + 1 < w.heap.size + 1 + 1 + 1 + 1 + 1 + 1 := (by omega); have hs63 : w.heap.size + 1 + 1 + 1 < w.heap.size + 1 + 1 + 1 + 1 + 1 + 1 := (by omega); have hs64 : w.heap.size + 1 + 1 + 1 + 1 < w.heap.size + 1 + 1 + 1 + 1 + 1 + 1 := (by omega)
  go_enter Tryd.func26, Tryd.ntmps26
  go_wp2_with fail
  go_at_call 48
  refine (HM.out _).mono ?_
  rintro e w1 ⟨rfl, hb⟩
  obtain ⟨hcl, hfr, hlt, hsz⟩ := after_call hb
  simp only [World.size_alloc, World.size_setCell, World.size_drew] at hcl hfr hlt hsz
  have z1 : w1.heap.size < w1.heap.size + 1 + 1 := by omega
  have z2 : w.heap.size < w1.heap.size := by omega
  have z3 : w.heap.size < w1.heap.size + 1 := by omega
  have q0 : w1.cell? ⟨w.heap.size, 0, none⟩ = some (.int .i64 a) := (hb.cell (p := ⟨w.heap.size, 0, none⟩) (by simp <;> omega)).trans (by go_cell)
  have q1 : w1.cell? ⟨w.heap.size, 1, none⟩ = some (.int .i64 b) := (hb.cell (p := ⟨w.heap.size, 1, none⟩) (by simp <;> omega)).trans (by go_cell)
  go_upto_region 3 with fail
  go_region_held3 (fun W => W.cell? ⟨w.heap.size, 0, none⟩ = some (.int .i64 a) ∧ W.cell? ⟨w.heap.size, 1, none⟩ = some (.int .i64 b) ∧ W.cell? ⟨w1.heap.size + 1, 0, none⟩ = some (.int .i64 V) ∧ W.cell? ⟨w1.heap.size + 1, 1, none⟩ = some (.int .i64 U) ∧ w.heap.size < W.heap.size ∧ w1.heap.size + 1 < W.heap.size) (first | (go_keep; done) | ((repeat' apply And.intro) <;> first | (go_keep; done) | (go_cell; done) | (refine (Below.cell (B := w.heap.size + 1 + 1) ?_ ?_).trans ?_; focus (repeat' (first | (with_reducible refine Below.alloc ?_ ?_ _) | (with_reducible refine Below.setCell ?_ ?_ _) | (with_reducible refine Below.drew ?_) | (with_reducible exact Below.refl _ _) | (first | omega | (simp only [World.size_alloc, World.size_drew, World.size_setCell]; omega) | (simp; omega)))); focus (first | omega | (simp only [World.size_alloc, World.size_drew, World.size_setCell]; omega) | (simp; omega)); first | (go_keep; done) | ((refine (Below.cell (by with_reducible assumption) ?_).trans ?_) <;> first | (go_keep; done) | (first | omega | (simp only [World.size_alloc, World.size_drew, World.size_setCell]; omega) | (simp; omega)))) | ((refine (Below.cell (by with_reducible assumption) ?_).trans ?_) <;> first | (go_keep; done) | (simp only [World.size_alloc, World.size_drew, World.size_setCell]; omega) | omega) | (simp only [World.size_alloc, World.size_drew, World.size_setCell]; omega) | omega)) (first | (go_at_call 14; refine (HP.out _).mono ?_; rintro e wn ⟨rfl, hb⟩; first | (have h2 := after_call2 hb hcl hfr hlt (by ((repeat' (first | (with_reducible exact Below.refl _ _) | (with_reducible refine Below.alloc ?_ ?_ _) | (with_reducible refine Below.setCell ?_ ?_ _) | (with_reducible refine Below.drew ?_) | (with_reducible refine below_drewN ?_ _) | (with_reducible assumption) | (with_reducible refine below_after (by with_reducible assumption) ?_) | go_size)); done)); obtain ⟨hclx, hfrx, hltx, hsz⟩ := after_call hb; (try simp only [World.size_alloc, World.size_setCell, World.size_drew] at hclx hfrx hltx hsz); (try (have hszl := Nat.lt_of_succ_le hsz)); obtain ⟨hcl, hfr, hlt⟩ := h2) | (obtain ⟨hcl, hfr, hlt, hsz⟩ := after_call hb; (try simp only [World.size_alloc, World.size_setCell, World.size_drew] at hcl hfr hlt hsz))))
  go_wp2
  refine bodyPost_ret (v := .tuple #[.agg #[.int .i64 (a - V), .int .i64 (b - U)], .agg #[.int .i64 V, .int .i64 U]]) (by simp (maxDischargeDepth := 8) [results, Tryd.results26, go_sem, *]) rfl ?_
  exact ⟨rfl, by (repeat' (first | (with_reducible exact Below.refl _ _) | (with_reducible refine Below.alloc ?_ ?_ _) | (with_reducible refine Below.setCell ?_ ?_ _) | (with_reducible refine Below.drew ?_) | (with_reducible refine below_drewN ?_ _) | (with_reducible assumption) | (with_reducible refine below_after (by with_reducible assumption) ?_) | go_size))⟩
end Go.Proofs.YtohnmogejidpdabDoor
