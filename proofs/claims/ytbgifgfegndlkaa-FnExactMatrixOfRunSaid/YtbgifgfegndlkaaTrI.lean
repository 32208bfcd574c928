/-
  Matrices of steps, in the model (own work).
-/
import Derived.Test.YtbgifgfegndlkaaTrH
namespace Go.Proofs.Ytbgifgfegndlkaa
open Go.ChangeShapes Go.WideShapes Go.ChangeAt Go.RowKit
set_option linter.unusedVariables false
set_option linter.unusedSimpArgs false
set_option maxRecDepth 100000

def ownF (k : Nat) : Nat → Int := match k with
  | 0 => nine 1 1 0 0 1 0 0 0 1
  | 1 => nine 1 0 1 0 1 0 0 0 1
  | 2 => nine 1 1 1 0 1 1 0 0 1
  | _ => nine 1 0 1 0 1 1 0 0 1
def plc (s : Nat × Nat × Nat) (j : Nat) : Nat := match j with | 0 => s.1 | 1 => s.2.1 | _ => s.2.2
/-- The columns of a square in another order. -/
def mtF (f : Nat → Int) (s : Nat × Nat × Nat) (c : Nat) : Int := f ((c / 3) * 3 + plc s (c % 3))
theorem plc_lt {s : Nat × Nat × Nat} (h : lt3 s) (j : Nat) : plc s j < 3 := by
  unfold plc
  split
  · exact h.1
  · exact h.2.1
  · exact h.2.2
theorem pk_plc (s : Nat × Nat × Nat) {j : Nat} (hj : j < 3) : pk j (s.1 : Int) (s.2.1 : Int) (s.2.2 : Int) = ((plc s j : Nat) : Int) := by
  match j, hj with
  | 0, _ => rfl
  | 1, _ => rfl
  | 2, _ => rfl
theorem mtF_at (f : Nat → Int) (s : Nat × Nat × Nat) {i j : Nat} (hj : j < 3) : mtF f s (i * 3 + j) = f (i * 3 + plc s j) := by
  unfold mtF
  rw [show (i * 3 + j) / 3 = i from by omega, show (i * 3 + j) % 3 = j from by omega]
/-- A row times the matrix of a step. -/
theorem prd_mt (m : Nat → Int) {k : Nat} (hk : k < 4) {s : Nat × Nat × Nat} (hs : lt3 s) {i j : Nat} (hj : j < 3) :
    prd m (mtF (ownF k) s) (i * 3 + j) = pk (plc s j) (rAdd k (m (i * 3)) (m (i * 3 + 1)) (m (i * 3 + 2))).1 (rAdd k (m (i * 3)) (m (i * 3 + 1)) (m (i * 3 + 2))).2.1 (rAdd k (m (i * 3)) (m (i * 3 + 1)) (m (i * 3 + 2))).2.2 := by
  rw [prd_at hj]
  simp only [ps]
  rw [mtF_at (i := 0) _ _ hj, mtF_at (i := 1) _ _ hj, mtF_at (i := 2) _ _ hj]
  simp only [Nat.zero_mul, Nat.zero_add, Nat.add_zero]
  have hp := plc_lt hs j
  generalize plc s j = p at *
  generalize m (i * 3) = x
  generalize m (i * 3 + 1) = y
  generalize m (i * 3 + 2) = z
  match k, hk, p, hp with
  | 0, _, 0, _ => simp [ownF, nine, rAdd, pk]
  | 0, _, 1, _ => simp [ownF, nine, rAdd, pk]
  | 0, _, 2, _ => simp [ownF, nine, rAdd, pk]
  | 1, _, 0, _ => simp [ownF, nine, rAdd, pk]
  | 1, _, 1, _ => simp [ownF, nine, rAdd, pk]
  | 1, _, 2, _ => simp [ownF, nine, rAdd, pk]
  | 2, _, 0, _ => simp [ownF, nine, rAdd, pk]
  | 2, _, 1, _ => simp [ownF, nine, rAdd, pk]
  | 2, _, 2, _ => simp [ownF, nine, rAdd, pk]
  | 3, _, 0, _ => simp [ownF, nine, rAdd, pk]
  | 3, _, 1, _ => simp [ownF, nine, rAdd, pk]
  | 3, _, 2, _ => simp [ownF, nine, rAdd, pk]
theorem ownF_b {k : Nat} (hk : k < 4) {c : Nat} (hc : c < 9) : 0 ≤ ownF k c ∧ ownF k c ≤ 1 := by
  match k, hk, c, hc with
  | 0, _, 0, _ => simp [ownF, nine]
  | 0, _, 1, _ => simp [ownF, nine]
  | 0, _, 2, _ => simp [ownF, nine]
  | 0, _, 3, _ => simp [ownF, nine]
  | 0, _, 4, _ => simp [ownF, nine]
  | 0, _, 5, _ => simp [ownF, nine]
  | 0, _, 6, _ => simp [ownF, nine]
  | 0, _, 7, _ => simp [ownF, nine]
  | 0, _, 8, _ => simp [ownF, nine]
  | 1, _, 0, _ => simp [ownF, nine]
  | 1, _, 1, _ => simp [ownF, nine]
  | 1, _, 2, _ => simp [ownF, nine]
  | 1, _, 3, _ => simp [ownF, nine]
  | 1, _, 4, _ => simp [ownF, nine]
  | 1, _, 5, _ => simp [ownF, nine]
  | 1, _, 6, _ => simp [ownF, nine]
  | 1, _, 7, _ => simp [ownF, nine]
  | 1, _, 8, _ => simp [ownF, nine]
  | 2, _, 0, _ => simp [ownF, nine]
  | 2, _, 1, _ => simp [ownF, nine]
  | 2, _, 2, _ => simp [ownF, nine]
  | 2, _, 3, _ => simp [ownF, nine]
  | 2, _, 4, _ => simp [ownF, nine]
  | 2, _, 5, _ => simp [ownF, nine]
  | 2, _, 6, _ => simp [ownF, nine]
  | 2, _, 7, _ => simp [ownF, nine]
  | 2, _, 8, _ => simp [ownF, nine]
  | 3, _, 0, _ => simp [ownF, nine]
  | 3, _, 1, _ => simp [ownF, nine]
  | 3, _, 2, _ => simp [ownF, nine]
  | 3, _, 3, _ => simp [ownF, nine]
  | 3, _, 4, _ => simp [ownF, nine]
  | 3, _, 5, _ => simp [ownF, nine]
  | 3, _, 6, _ => simp [ownF, nine]
  | 3, _, 7, _ => simp [ownF, nine]
  | 3, _, 8, _ => simp [ownF, nine]
set_option maxHeartbeats 3200000 in
theorem l07Mat_0 (a b c u v z : Int) (s : Nat × Nat × Nat) (E : Value) (w : World) (HLS : Hid (lt3 s)) (HRES0 : Hid (E = ag9 (mtF (nine 1 1 0 0 1 0 0 0 1) s)))
    (HLESS : Hid (∀ w, Calls Try.prog 90 #[.agg #[.int .i64 a, .int .i64 b, .int .i64 c], .int .i64 0] w fun e w' => e = .returned (.agg #[.int .i64 u, .int .i64 v, .int .i64 z]) ∧ Below w.heap.size w w'))
    (HORD : Hid (∀ w, Calls Try.prog 86 #[.agg #[.int .i64 u, .int .i64 v, .int .i64 z]] w fun e w' => ∃ g, e = .returned (.slice (some ⟨g, 0, none⟩) 3 3) ∧ w.heap.size ≤ g ∧ Bk3 w' g (s.1 : Int) (s.2.1 : Int) (s.2.2 : Int) ∧ Below w.heap.size w w')) :
    Calls Try.prog 70 #[.agg #[.int .i64 a, .int .i64 b, .int .i64 c], .int .i64 0] w fun e w' => e = .returned (E) ∧ Below w.heap.size w w' := by
  obtain ⟨GT, hG⟩ : ∃ G, w.heap.size = G := ⟨_, rfl⟩
  have HG := Lib.hid hG
  go_enter Try.func70, Try.ntmps70
  go_upto_region 1 with fail
  obtain ⟨w0, hw0⟩ : ∃ w0, w0 = ((w.alloc (.cells #[.int .i64 a, .int .i64 b, .int .i64 c] 24)).alloc (.cells #[.int .i64 0, .int .i64 0, .int .i64 0, .int .i64 0, .int .i64 0, .int .i64 0, .int .i64 0, .int .i64 0, .int .i64 0] 43)) := ⟨_, rfl⟩
  rw [← hw0]
  have HT : Hid (Bk3 w0 GT a b c) := by
    have h := (bk3_new w a b c 24).below (W' := ((w.alloc (.cells #[.int .i64 a, .int .i64 b, .int .i64 c] 24)).alloc (.cells #[.int .i64 0, .int .i64 0, .int .i64 0, .int .i64 0, .int .i64 0, .int .i64 0, .int .i64 0, .int .i64 0, .int .i64 0] 43))) (by (repeat' (first | (with_reducible exact Below.refl _ _) | (with_reducible refine Below.alloc ?_ ?_ _) | (with_reducible refine Below.setCell ?_ ?_ _) | (with_reducible refine Below.drew ?_) | (with_reducible refine below_drewN ?_ _) | (with_reducible assumption) | (with_reducible refine below_after (by with_reducible assumption) ?_) | go_size)))
    (try simp only [World.size_alloc] at h)
    rw [hG] at h
    rw [hw0]; exact h
  have HR : Hid (Bk9 w0 (GT + 1) 0 0 0 0 0 0 0 0 0) := by
    have h := (bk9_new (w.alloc (.cells #[.int .i64 a, .int .i64 b, .int .i64 c] 24)) 0 0 0 0 0 0 0 0 0 43).below (W' := ((w.alloc (.cells #[.int .i64 a, .int .i64 b, .int .i64 c] 24)).alloc (.cells #[.int .i64 0, .int .i64 0, .int .i64 0, .int .i64 0, .int .i64 0, .int .i64 0, .int .i64 0, .int .i64 0, .int .i64 0] 43))) (by (repeat' (first | (with_reducible exact Below.refl _ _) | (with_reducible refine Below.alloc ?_ ?_ _) | (with_reducible refine Below.setCell ?_ ?_ _) | (with_reducible refine Below.drew ?_) | (with_reducible refine below_drewN ?_ _) | (with_reducible assumption) | (with_reducible refine below_after (by with_reducible assumption) ?_) | go_size)))
    (try simp only [World.size_alloc] at h)
    rw [hG] at h
    rw [hw0]; exact h
  have HB : Hid (Below w.heap.size w w0) := by show Below w.heap.size w w0; rw [hw0]; (repeat' (first | (with_reducible exact Below.refl _ _) | (with_reducible refine Below.alloc ?_ ?_ _) | (with_reducible refine Below.setCell ?_ ?_ _) | (with_reducible refine Below.drew ?_) | (with_reducible refine below_drewN ?_ _) | (with_reducible assumption) | (with_reducible refine below_after (by with_reducible assumption) ?_) | go_size))
  clear hw0
  obtain ⟨GR, hGR⟩ : ∃ g, GT + 1 = g := ⟨_, rfl⟩
  rw [hGR] at HR ⊢
  have le_T : w.heap.size ≤ GT := by omega
  have le_R : w.heap.size ≤ GR := by omega
  have ne_R_T : GR ≠ GT := by omega
  have ne_T_R : GT ≠ GR := by omega
  clear hGR
  obtain ⟨⟨qT0, qT1, qT2⟩, ⟨fT0, fT1, fT2⟩, zT⟩ := HT.out
  obtain ⟨⟨qR0, qR1, qR2, qR3, qR4, qR5, qR6, qR7, qR8⟩, ⟨fR0, fR1, fR2, fR3, fR4, fR5, fR6, fR7, fR8⟩, zR⟩ := HR.out
  go_upto_region 2 with fail
  obtain ⟨GO, hGO⟩ : ∃ g, w0.heap.size = g := ⟨_, rfl⟩
  obtain ⟨w1, hw1⟩ : ∃ wx, wx = w0.alloc (.cells #[.int .i64 1, .int .i64 0, .int .i64 0, .int .i64 0, .int .i64 1, .int .i64 0, .int .i64 0, .int .i64 0, .int .i64 1] 43) := ⟨_, rfl⟩
  rw [← hw1, hGO]
  have HO : Hid (Bk9 w1 GO 1 0 0 0 1 0 0 0 1) := by rw [hw1, ← hGO]; exact bk9_new w0 1 0 0 0 1 0 0 0 1 _
  have le_O : w.heap.size ≤ GO := by rw [← hGO]; exact HB.out.size
  have ne_O_T : GO ≠ GT := by have := HT.out.2.2; omega
  have ne_T_O : GT ≠ GO := Ne.symm ne_O_T
  have ne_O_R : GO ≠ GR := by have := HR.out.2.2; omega
  have ne_R_O : GR ≠ GO := Ne.symm ne_O_R
  clear qT0 fT0 qT1 fT1 qT2 fT2 zT qR0 fR0 qR1 fR1 qR2 fR2 qR3 fR3 qR4 fR4 qR5 fR5 qR6 fR6 qR7 fR7 qR8 fR8 zR
  have HT := Lib.hid (HT.out.below ((Below.refl _ _).alloc (Nat.le_refl _) (.cells #[.int .i64 1, .int .i64 0, .int .i64 0, .int .i64 0, .int .i64 1, .int .i64 0, .int .i64 0, .int .i64 0, .int .i64 1] 43)))
  have HR := Lib.hid (HR.out.below ((Below.refl _ _).alloc (Nat.le_refl _) (.cells #[.int .i64 1, .int .i64 0, .int .i64 0, .int .i64 0, .int .i64 1, .int .i64 0, .int .i64 0, .int .i64 0, .int .i64 1] 43)))
  have HB := Lib.hid (Below.alloc HB.out HB.out.size (.cells #[.int .i64 1, .int .i64 0, .int .i64 0, .int .i64 0, .int .i64 1, .int .i64 0, .int .i64 0, .int .i64 0, .int .i64 1] 43))
  rw [← hw1] at HT HR HB
  clear hw1 hGO
  obtain ⟨⟨qT0, qT1, qT2⟩, ⟨fT0, fT1, fT2⟩, zT⟩ := HT.out
  obtain ⟨⟨qR0, qR1, qR2, qR3, qR4, qR5, qR6, qR7, qR8⟩, ⟨fR0, fR1, fR2, fR3, fR4, fR5, fR6, fR7, fR8⟩, zR⟩ := HR.out
  obtain ⟨⟨qO0, qO1, qO2, qO3, qO4, qO5, qO6, qO7, qO8⟩, ⟨fO0, fO1, fO2, fO3, fO4, fO5, fO6, fO7, fO8⟩, zO⟩ := HO.out
  go_upto_region 13 with fail
  obtain ⟨w2, hw2⟩ : ∃ wx, wx = (w1.setCell ⟨GO, 1, none⟩ (.int .i64 1)) := ⟨_, rfl⟩
  rw [← hw2]
  clear qT0 fT0 qT1 fT1 qT2 fT2 zT qR0 fR0 qR1 fR1 qR2 fR2 qR3 fR3 qR4 fR4 qR5 fR5 qR6 fR6 qR7 fR7 qR8 fR8 zR qO0 fO0 qO1 fO1 qO2 fO2 qO3 fO3 qO4 fO4 qO5 fO5 qO6 fO6 qO7 fO7 qO8 fO8 zO
  have HT := Lib.hid (HT.out.far ⟨GO, 1, none⟩ (.int .i64 1) (by show GT ≠ GO; exact ne_T_O))
  have HR := Lib.hid (HR.out.far ⟨GO, 1, none⟩ (.int .i64 1) (by show GR ≠ GO; exact ne_R_O))
  have HO := Lib.hid (HO.out.set1 1)
  have HB := Lib.hid (Below.setCell HB.out (p := ⟨GO, 1, none⟩) le_O (.int .i64 1))
  rw [← hw2] at HT HR HO HB
  clear hw2
  obtain ⟨⟨qT0, qT1, qT2⟩, ⟨fT0, fT1, fT2⟩, zT⟩ := HT.out
  obtain ⟨⟨qR0, qR1, qR2, qR3, qR4, qR5, qR6, qR7, qR8⟩, ⟨fR0, fR1, fR2, fR3, fR4, fR5, fR6, fR7, fR8⟩, zR⟩ := HR.out
  obtain ⟨⟨qO0, qO1, qO2, qO3, qO4, qO5, qO6, qO7, qO8⟩, ⟨fO0, fO1, fO2, fO3, fO4, fO5, fO6, fO7, fO8⟩, zO⟩ := HO.out
  go_wp2_with fail
  go_at_call 90
  refine (HLESS.out _).mono ?_
  rintro e w3 ⟨rfl, hb⟩
  clear qT0 fT0 qT1 fT1 qT2 fT2 zT qR0 fR0 qR1 fR1 qR2 fR2 qR3 fR3 qR4 fR4 qR5 fR5 qR6 fR6 qR7 fR7 qR8 fR8 zR qO0 fO0 qO1 fO1 qO2 fO2 qO3 fO3 qO4 fO4 qO5 fO5 qO6 fO6 qO7 fO7 qO8 fO8 zO
  have HT := Lib.hid (HT.out.below hb)
  have HR := Lib.hid (HR.out.below hb)
  have HO := Lib.hid (HO.out.below hb)
  have HB := Lib.hid (below_after hb HB.out)
  clear hb
  have hszo := HB.out.size
  have hltO := HO.out.2.2
  have hltR := HR.out.2.2
  obtain ⟨⟨qT0, qT1, qT2⟩, ⟨fT0, fT1, fT2⟩, zT⟩ := HT.out
  obtain ⟨⟨qR0, qR1, qR2, qR3, qR4, qR5, qR6, qR7, qR8⟩, ⟨fR0, fR1, fR2, fR3, fR4, fR5, fR6, fR7, fR8⟩, zR⟩ := HR.out
  obtain ⟨⟨qO0, qO1, qO2, qO3, qO4, qO5, qO6, qO7, qO8⟩, ⟨fO0, fO1, fO2, fO3, fO4, fO5, fO6, fO7, fO8⟩, zO⟩ := HO.out
  go_wp2_with fail
  go_at_call 86
  refine (HORD.out _).mono ?_
  rintro e w4 ⟨gD, rfl, hgD, hbD, hb⟩
  clear qT0 fT0 qT1 fT1 qT2 fT2 zT qR0 fR0 qR1 fR1 qR2 fR2 qR3 fR3 qR4 fR4 qR5 fR5 qR6 fR6 qR7 fR7 qR8 fR8 zR qO0 fO0 qO1 fO1 qO2 fO2 qO3 fO3 qO4 fO4 qO5 fO5 qO6 fO6 qO7 fO7 qO8 fO8 zO
  have HT := Lib.hid (HT.out.below hb)
  have HR := Lib.hid (HR.out.below hb)
  have HO := Lib.hid (HO.out.below hb)
  have HB := Lib.hid (below_after hb HB.out)
  clear hb
  have HD := Lib.hid hbD
  have le_D : w.heap.size ≤ gD := Nat.le_trans hszo hgD
  have ne_O_D : GO ≠ gD := by omega
  have ne_D_O : gD ≠ GO := by omega
  have ne_R_D : GR ≠ gD := by omega
  have ne_D_R : gD ≠ GR := by omega
  clear hbD hgD hszo hltO hltR
  clear HT
  obtain ⟨⟨qR0, qR1, qR2, qR3, qR4, qR5, qR6, qR7, qR8⟩, ⟨fR0, fR1, fR2, fR3, fR4, fR5, fR6, fR7, fR8⟩, zR⟩ := HR.out
  obtain ⟨⟨qO0, qO1, qO2, qO3, qO4, qO5, qO6, qO7, qO8⟩, ⟨fO0, fO1, fO2, fO3, fO4, fO5, fO6, fO7, fO8⟩, zO⟩ := HO.out
  obtain ⟨⟨qD0, qD1, qD2⟩, ⟨fD0, fD1, fD2⟩, zD⟩ := HD.out
  go_upto_region 14 with fail
  obtain ⟨GQ, hGQ⟩ : ∃ g, w4.heap.size = g := ⟨_, rfl⟩
  obtain ⟨w5, hw5⟩ : ∃ wx, wx = w4.alloc (.cells #[.int .i64 0, .int .i64 0, .int .i64 0, .int .i64 0, .int .i64 0, .int .i64 0, .int .i64 0, .int .i64 0, .int .i64 0] 43) := ⟨_, rfl⟩
  rw [← hw5, hGQ]
  have HQ : Hid (Bk9 w5 GQ 0 0 0 0 0 0 0 0 0) := by rw [hw5, ← hGQ]; exact bk9_new w4 0 0 0 0 0 0 0 0 0 _
  have le_Q : w.heap.size ≤ GQ := by rw [← hGQ]; exact HB.out.size
  have ne_Q_R : GQ ≠ GR := by have := HR.out.2.2; omega
  have ne_R_Q : GR ≠ GQ := Ne.symm ne_Q_R
  have ne_Q_O : GQ ≠ GO := by have := HO.out.2.2; omega
  have ne_O_Q : GO ≠ GQ := Ne.symm ne_Q_O
  have ne_Q_D : GQ ≠ gD := by have := HD.out.2.2; omega
  have ne_D_Q : gD ≠ GQ := Ne.symm ne_Q_D
  clear qR0 fR0 qR1 fR1 qR2 fR2 qR3 fR3 qR4 fR4 qR5 fR5 qR6 fR6 qR7 fR7 qR8 fR8 zR qO0 fO0 qO1 fO1 qO2 fO2 qO3 fO3 qO4 fO4 qO5 fO5 qO6 fO6 qO7 fO7 qO8 fO8 zO qD0 fD0 qD1 fD1 qD2 fD2 zD
  have HR := Lib.hid (HR.out.below ((Below.refl _ _).alloc (Nat.le_refl _) (.cells #[.int .i64 0, .int .i64 0, .int .i64 0, .int .i64 0, .int .i64 0, .int .i64 0, .int .i64 0, .int .i64 0, .int .i64 0] 43)))
  have HO := Lib.hid (HO.out.below ((Below.refl _ _).alloc (Nat.le_refl _) (.cells #[.int .i64 0, .int .i64 0, .int .i64 0, .int .i64 0, .int .i64 0, .int .i64 0, .int .i64 0, .int .i64 0, .int .i64 0] 43)))
  have HD := Lib.hid (HD.out.below ((Below.refl _ _).alloc (Nat.le_refl _) (.cells #[.int .i64 0, .int .i64 0, .int .i64 0, .int .i64 0, .int .i64 0, .int .i64 0, .int .i64 0, .int .i64 0, .int .i64 0] 43)))
  have HB := Lib.hid (Below.alloc HB.out HB.out.size (.cells #[.int .i64 0, .int .i64 0, .int .i64 0, .int .i64 0, .int .i64 0, .int .i64 0, .int .i64 0, .int .i64 0, .int .i64 0] 43))
  rw [← hw5] at HR HO HD HB
  clear hw5 hGQ
  go_wp2_with fail
  have HQ := Lib.hid HQ.out.toF
  have HO := Lib.hid HO.out.toF
  obtain ⟨f, hf⟩ : ∃ f, nine 1 1 0 0 1 0 0 0 1 = f := ⟨_, rfl⟩
  have HRES : Hid (E = ag9 (mtF f s)) := by show _ = _; rw [← hf]; exact HRES0.out
  rw [hf] at HO
  clear hf HLESS HORD
  have HNE := Lib.hid (And.intro ne_Q_O (And.intro ne_Q_D (And.intro ne_Q_R (And.intro ne_O_Q (And.intro ne_D_Q (And.intro ne_R_Q (And.intro le_Q le_R)))))))
  go_loopw [8] (fun y wr => ∃ i : Nat, y = .int .i64 (i : Int) ∧ i ≤ 3 ∧ BkF wr GQ (dnF (mtF f s) (i * 3)) ∧ BkF wr GO f ∧ Bk3 wr gD (s.1 : Int) (s.2.1 : Int) (s.2.2 : Int) ∧ Bk9 wr GR 0 0 0 0 0 0 0 0 0 ∧ Below w.heap.size w wr) (fun y _ => 3 - (intOf y).toNat)
  case atStart => exact ⟨0, rfl, by omega, HQ.out.congr (fun c hc => by match c, hc with
    | 0, _ => rfl
    | 1, _ => rfl
    | 2, _ => rfl
    | 3, _ => rfl
    | 4, _ => rfl
    | 5, _ => rfl
    | 6, _ => rfl
    | 7, _ => rfl
    | 8, _ => rfl), HO.out, HD.out, HR.out, HB.out⟩
  case round =>
    obtain ⟨i, rfl, hi, hQ, hO, hD, hR, hbel⟩ := hrel
    clear HQ HO HD HR HB
    have HQ := Lib.hid hQ
    have HO := Lib.hid hO
    have HD := Lib.hid hD
    have HR := Lib.hid hR
    have HB := Lib.hid hbel
    clear hQ hO hD hR hbel
    by_cases hi3 : i < 3
    · have hk0 : decide ((i : Int) < 3) = true := by simp; omega
      go_wp2_with fail
      (try rw [hk0])
      go_loopw [9] (fun y wr => ∃ j : Nat, y = .int .i64 (j : Int) ∧ j ≤ 3 ∧ BkF wr GQ (dnF (mtF f s) (i * 3 + j)) ∧ BkF wr GO f ∧ Bk3 wr gD (s.1 : Int) (s.2.1 : Int) (s.2.2 : Int) ∧ Bk9 wr GR 0 0 0 0 0 0 0 0 0 ∧ Below w.heap.size w wr) (fun y _ => 3 - (intOf y).toNat)
      case atStart => exact ⟨0, rfl, by omega, HQ.out, HO.out, HD.out, HR.out, HB.out⟩
      case round =>
        obtain ⟨j, rfl, hj, hQ, hO, hD, hR, hbel⟩ := hrel
        clear HQ HO HD HR HB
        have HQ := Lib.hid hQ
        have HO := Lib.hid hO
        have HD := Lib.hid hD
        have HR := Lib.hid hR
        have HB := Lib.hid hbel
        clear hQ hO hD hR hbel
        by_cases hj3 : j < 3
        · have hpl := plc_lt HLS.out j
          have c0 := HD.out.at hj3
          rw [pk_plc s hj3] at c0
          have hm := mtF_at f s (i := i) hj3
          obtain ⟨p, hp⟩ : ∃ p, plc s j = p := ⟨_, rfl⟩
          rw [hp] at hpl c0 hm
          have c1 := HO.out.1 (i * 3 + p) (by omega)
          have fz := HQ.out.2.1 (i * 3 + j) (by omega)
          have cz := HQ.out.1 (i * 3 + j) (by omega)
          have hz := HQ.out.2.2
          obtain ⟨X, hX⟩ : ∃ X, f (i * 3 + p) = X := ⟨_, rfl⟩
          obtain ⟨S, hS⟩ : ∃ S, dnF (mtF f s) (i * 3 + j) (i * 3 + j) = S := ⟨_, rfl⟩
          rw [hX] at c1 hm
          rw [hS] at cz
          have HMT := Lib.hid hm
          have i0 : (0 : Int) ≤ (i : Int) := by omega
          have i1 : (i : Int) < 3 := by omega
          have j0 : (0 : Int) ≤ (j : Int) := by omega
          have j1 : (j : Int) < 3 := by omega
          have p0 : (0 : Int) ≤ (p : Int) := by omega
          have p1 : (p : Int) < 3 := by omega
          clear hp hX hm hS
          go_upto_region 20 with fail
          go_still_tail 12, (by kernel_rfl)
          change wpList _ _ _ _ _ (World.drew _)
          obtain ⟨w2, hw2⟩ : ∃ wx, wr.drew = wx := ⟨_, rfl⟩
          rw [hw2]
          have HQ2 : Hid (BkF w2 GQ (dnF (mtF f s) (i * 3 + j))) := by show BkF _ _ _; rw [← hw2]; exact HQ.out
          have HO2 : Hid (BkF w2 GO f) := by show BkF _ _ _; rw [← hw2]; exact HO.out
          have HD2 := Lib.hid (HD.out.below (Below.drew (Below.refl _ _)))
          have HR2 := Lib.hid (HR.out.below (Below.drew (Below.refl _ _)))
          have HB2 := Lib.hid (Below.drew HB.out)
          rw [hw2] at HD2 HR2 HB2
          have fz2 : w2.frozen? ⟨GQ, i * 3 + j, none⟩ = false := by rw [← hw2]; exact fz
          have cz2 : w2.cell? ⟨GQ, i * 3 + j, none⟩ = some (.int .i64 S) := by rw [← hw2]; exact cz
          have hz2 : GQ < w2.heap.size := HQ2.out.2.2
          clear hw2 c0 c1 fz cz hz HQ HO HD HR HB
          obtain ⟨ne_Q_O, ne_Q_D, ne_Q_R, ne_O_Q, ne_D_Q, ne_R_Q, le_Q, le_R⟩ := HNE.out
          go_wp2_with fail
          go_roundw
          case rel =>
            refine ⟨j + 1, by go_num, by omega, (HQ2.out.set (i * 3 + j) (by omega) X).congr (fun c hc => ?_), HO2.out.far ⟨GQ, _, none⟩ _ (by show GO ≠ GQ; exact ne_O_Q), HD2.out.far ⟨GQ, _, none⟩ _ (by show gD ≠ GQ; exact ne_D_Q), HR2.out.far ⟨GQ, _, none⟩ _ (by show GR ≠ GQ; exact ne_R_Q), Below.setCell HB2.out (by exact le_Q) _⟩
            (try dsimp only)
            by_cases e : c = i * 3 + j
            · rw [if_pos e, e]; unfold dnF; rw [if_pos (by omega), HMT.out]
            · rw [if_neg e]; unfold dnF
              by_cases e2 : c < i * 3 + j
              · rw [if_pos e2, if_pos (by omega)]
              · rw [if_neg e2, if_neg (by omega)]
          case measure =>
            show 3 - ((j : Int) + 1).toNat < 3 - ((j : Int)).toNat
            omega
        · have e3 : j = 3 := by omega
          subst e3
          rw [show ((3 : Nat) : Int) = 3 from rfl]
          go_wp2_with fail
          go_roundw
          case rel => exact ⟨i + 1, by go_num, by omega, HQ.out.congr (fun c hc => by rw [show (i + 1) * 3 = i * 3 + 3 from by omega]), HO.out, HD.out, HR.out, HB.out⟩
          case measure =>
            show 3 - ((i : Int) + 1).toNat < 3 - ((i : Int)).toNat
            omega
    · have e3 : i = 3 := by omega
      subst e3
      rw [show ((3 : Nat) : Int) = 3 from rfl]
      have HQ9 := Lib.hid (HQ.out.congr (f' := mtF f s) (fun c hc => by unfold dnF; rw [if_pos (by omega)])).to9
      obtain ⟨ne_Q_O, ne_Q_D, ne_Q_R, ne_O_Q, ne_D_Q, ne_R_Q, le_Q, le_R⟩ := HNE.out
      obtain ⟨P0, hP0⟩ : ∃ P, mtF f s = P := ⟨_, rfl⟩
      rw [hP0] at HQ9 HRES
      obtain ⟨⟨q0, q1, q2, q3, q4, q5, q6, q7, q8⟩, _, zQ⟩ := HQ9.out
      obtain ⟨_, ⟨f0, f1, f2, f3, f4, f5, f6, f7, f8⟩, zR⟩ := HR.out
      clear HO HD HQ hP0
      go_wp2_with fail
      refine bodyPost_ret (v := .agg #[.int .i64 (P0 0), .int .i64 (P0 1), .int .i64 (P0 2), .int .i64 (P0 3), .int .i64 (P0 4), .int .i64 (P0 5), .int .i64 (P0 6), .int .i64 (P0 7), .int .i64 (P0 8)]) (by simp (maxDischargeDepth := 8) [results, Try.results70, go_sem, *]) rfl ?_
      have hb := HB.out
      exact ⟨by rw [HRES.out]; rfl, by (repeat' (first | (with_reducible exact Below.refl _ _) | (with_reducible refine Below.alloc ?_ ?_ _) | (with_reducible refine Below.setCell ?_ ?_ _) | (with_reducible refine Below.drew ?_) | (with_reducible refine below_drewN ?_ _) | (with_reducible assumption) | (with_reducible refine below_after (by with_reducible assumption) ?_) | go_size))⟩
set_option maxHeartbeats 3200000 in
theorem l07Mat_1 (a b c u v z : Int) (s : Nat × Nat × Nat) (E : Value) (w : World) (HLS : Hid (lt3 s)) (HRES0 : Hid (E = ag9 (mtF (nine 1 0 1 0 1 0 0 0 1) s)))
    (HLESS : Hid (∀ w, Calls Try.prog 90 #[.agg #[.int .i64 a, .int .i64 b, .int .i64 c], .int .i64 1] w fun e w' => e = .returned (.agg #[.int .i64 u, .int .i64 v, .int .i64 z]) ∧ Below w.heap.size w w'))
    (HORD : Hid (∀ w, Calls Try.prog 86 #[.agg #[.int .i64 u, .int .i64 v, .int .i64 z]] w fun e w' => ∃ g, e = .returned (.slice (some ⟨g, 0, none⟩) 3 3) ∧ w.heap.size ≤ g ∧ Bk3 w' g (s.1 : Int) (s.2.1 : Int) (s.2.2 : Int) ∧ Below w.heap.size w w')) :
    Calls Try.prog 70 #[.agg #[.int .i64 a, .int .i64 b, .int .i64 c], .int .i64 1] w fun e w' => e = .returned (E) ∧ Below w.heap.size w w' := by
  obtain ⟨GT, hG⟩ : ∃ G, w.heap.size = G := ⟨_, rfl⟩
  have HG := Lib.hid hG
  go_enter Try.func70, Try.ntmps70
  go_upto_region 1 with fail
  obtain ⟨w0, hw0⟩ : ∃ w0, w0 = ((w.alloc (.cells #[.int .i64 a, .int .i64 b, .int .i64 c] 24)).alloc (.cells #[.int .i64 0, .int .i64 0, .int .i64 0, .int .i64 0, .int .i64 0, .int .i64 0, .int .i64 0, .int .i64 0, .int .i64 0] 43)) := ⟨_, rfl⟩
  rw [← hw0]
  have HT : Hid (Bk3 w0 GT a b c) := by
    have h := (bk3_new w a b c 24).below (W' := ((w.alloc (.cells #[.int .i64 a, .int .i64 b, .int .i64 c] 24)).alloc (.cells #[.int .i64 0, .int .i64 0, .int .i64 0, .int .i64 0, .int .i64 0, .int .i64 0, .int .i64 0, .int .i64 0, .int .i64 0] 43))) (by (repeat' (first | (with_reducible exact Below.refl _ _) | (with_reducible refine Below.alloc ?_ ?_ _) | (with_reducible refine Below.setCell ?_ ?_ _) | (with_reducible refine Below.drew ?_) | (with_reducible refine below_drewN ?_ _) | (with_reducible assumption) | (with_reducible refine below_after (by with_reducible assumption) ?_) | go_size)))
    (try simp only [World.size_alloc] at h)
    rw [hG] at h
    rw [hw0]; exact h
  have HR : Hid (Bk9 w0 (GT + 1) 0 0 0 0 0 0 0 0 0) := by
    have h := (bk9_new (w.alloc (.cells #[.int .i64 a, .int .i64 b, .int .i64 c] 24)) 0 0 0 0 0 0 0 0 0 43).below (W' := ((w.alloc (.cells #[.int .i64 a, .int .i64 b, .int .i64 c] 24)).alloc (.cells #[.int .i64 0, .int .i64 0, .int .i64 0, .int .i64 0, .int .i64 0, .int .i64 0, .int .i64 0, .int .i64 0, .int .i64 0] 43))) (by (repeat' (first | (with_reducible exact Below.refl _ _) | (with_reducible refine Below.alloc ?_ ?_ _) | (with_reducible refine Below.setCell ?_ ?_ _) | (with_reducible refine Below.drew ?_) | (with_reducible refine below_drewN ?_ _) | (with_reducible assumption) | (with_reducible refine below_after (by with_reducible assumption) ?_) | go_size)))
    (try simp only [World.size_alloc] at h)
    rw [hG] at h
    rw [hw0]; exact h
  have HB : Hid (Below w.heap.size w w0) := by show Below w.heap.size w w0; rw [hw0]; (repeat' (first | (with_reducible exact Below.refl _ _) | (with_reducible refine Below.alloc ?_ ?_ _) | (with_reducible refine Below.setCell ?_ ?_ _) | (with_reducible refine Below.drew ?_) | (with_reducible refine below_drewN ?_ _) | (with_reducible assumption) | (with_reducible refine below_after (by with_reducible assumption) ?_) | go_size))
  clear hw0
  obtain ⟨GR, hGR⟩ : ∃ g, GT + 1 = g := ⟨_, rfl⟩
  rw [hGR] at HR ⊢
  have le_T : w.heap.size ≤ GT := by omega
  have le_R : w.heap.size ≤ GR := by omega
  have ne_R_T : GR ≠ GT := by omega
  have ne_T_R : GT ≠ GR := by omega
  clear hGR
  obtain ⟨⟨qT0, qT1, qT2⟩, ⟨fT0, fT1, fT2⟩, zT⟩ := HT.out
  obtain ⟨⟨qR0, qR1, qR2, qR3, qR4, qR5, qR6, qR7, qR8⟩, ⟨fR0, fR1, fR2, fR3, fR4, fR5, fR6, fR7, fR8⟩, zR⟩ := HR.out
  go_upto_region 2 with fail
  obtain ⟨GO, hGO⟩ : ∃ g, w0.heap.size = g := ⟨_, rfl⟩
  obtain ⟨w1, hw1⟩ : ∃ wx, wx = w0.alloc (.cells #[.int .i64 1, .int .i64 0, .int .i64 0, .int .i64 0, .int .i64 1, .int .i64 0, .int .i64 0, .int .i64 0, .int .i64 1] 43) := ⟨_, rfl⟩
  rw [← hw1, hGO]
  have HO : Hid (Bk9 w1 GO 1 0 0 0 1 0 0 0 1) := by rw [hw1, ← hGO]; exact bk9_new w0 1 0 0 0 1 0 0 0 1 _
  have le_O : w.heap.size ≤ GO := by rw [← hGO]; exact HB.out.size
  have ne_O_T : GO ≠ GT := by have := HT.out.2.2; omega
  have ne_T_O : GT ≠ GO := Ne.symm ne_O_T
  have ne_O_R : GO ≠ GR := by have := HR.out.2.2; omega
  have ne_R_O : GR ≠ GO := Ne.symm ne_O_R
  clear qT0 fT0 qT1 fT1 qT2 fT2 zT qR0 fR0 qR1 fR1 qR2 fR2 qR3 fR3 qR4 fR4 qR5 fR5 qR6 fR6 qR7 fR7 qR8 fR8 zR
  have HT := Lib.hid (HT.out.below ((Below.refl _ _).alloc (Nat.le_refl _) (.cells #[.int .i64 1, .int .i64 0, .int .i64 0, .int .i64 0, .int .i64 1, .int .i64 0, .int .i64 0, .int .i64 0, .int .i64 1] 43)))
  have HR := Lib.hid (HR.out.below ((Below.refl _ _).alloc (Nat.le_refl _) (.cells #[.int .i64 1, .int .i64 0, .int .i64 0, .int .i64 0, .int .i64 1, .int .i64 0, .int .i64 0, .int .i64 0, .int .i64 1] 43)))
  have HB := Lib.hid (Below.alloc HB.out HB.out.size (.cells #[.int .i64 1, .int .i64 0, .int .i64 0, .int .i64 0, .int .i64 1, .int .i64 0, .int .i64 0, .int .i64 0, .int .i64 1] 43))
  rw [← hw1] at HT HR HB
  clear hw1 hGO
  obtain ⟨⟨qT0, qT1, qT2⟩, ⟨fT0, fT1, fT2⟩, zT⟩ := HT.out
  obtain ⟨⟨qR0, qR1, qR2, qR3, qR4, qR5, qR6, qR7, qR8⟩, ⟨fR0, fR1, fR2, fR3, fR4, fR5, fR6, fR7, fR8⟩, zR⟩ := HR.out
  obtain ⟨⟨qO0, qO1, qO2, qO3, qO4, qO5, qO6, qO7, qO8⟩, ⟨fO0, fO1, fO2, fO3, fO4, fO5, fO6, fO7, fO8⟩, zO⟩ := HO.out
  go_upto_region 13 with fail
  obtain ⟨w2, hw2⟩ : ∃ wx, wx = (w1.setCell ⟨GO, 2, none⟩ (.int .i64 1)) := ⟨_, rfl⟩
  rw [← hw2]
  clear qT0 fT0 qT1 fT1 qT2 fT2 zT qR0 fR0 qR1 fR1 qR2 fR2 qR3 fR3 qR4 fR4 qR5 fR5 qR6 fR6 qR7 fR7 qR8 fR8 zR qO0 fO0 qO1 fO1 qO2 fO2 qO3 fO3 qO4 fO4 qO5 fO5 qO6 fO6 qO7 fO7 qO8 fO8 zO
  have HT := Lib.hid (HT.out.far ⟨GO, 2, none⟩ (.int .i64 1) (by show GT ≠ GO; exact ne_T_O))
  have HR := Lib.hid (HR.out.far ⟨GO, 2, none⟩ (.int .i64 1) (by show GR ≠ GO; exact ne_R_O))
  have HO := Lib.hid (HO.out.set2 1)
  have HB := Lib.hid (Below.setCell HB.out (p := ⟨GO, 2, none⟩) le_O (.int .i64 1))
  rw [← hw2] at HT HR HO HB
  clear hw2
  obtain ⟨⟨qT0, qT1, qT2⟩, ⟨fT0, fT1, fT2⟩, zT⟩ := HT.out
  obtain ⟨⟨qR0, qR1, qR2, qR3, qR4, qR5, qR6, qR7, qR8⟩, ⟨fR0, fR1, fR2, fR3, fR4, fR5, fR6, fR7, fR8⟩, zR⟩ := HR.out
  obtain ⟨⟨qO0, qO1, qO2, qO3, qO4, qO5, qO6, qO7, qO8⟩, ⟨fO0, fO1, fO2, fO3, fO4, fO5, fO6, fO7, fO8⟩, zO⟩ := HO.out
  go_wp2_with fail
  go_at_call 90
  refine (HLESS.out _).mono ?_
  rintro e w3 ⟨rfl, hb⟩
  clear qT0 fT0 qT1 fT1 qT2 fT2 zT qR0 fR0 qR1 fR1 qR2 fR2 qR3 fR3 qR4 fR4 qR5 fR5 qR6 fR6 qR7 fR7 qR8 fR8 zR qO0 fO0 qO1 fO1 qO2 fO2 qO3 fO3 qO4 fO4 qO5 fO5 qO6 fO6 qO7 fO7 qO8 fO8 zO
  have HT := Lib.hid (HT.out.below hb)
  have HR := Lib.hid (HR.out.below hb)
  have HO := Lib.hid (HO.out.below hb)
  have HB := Lib.hid (below_after hb HB.out)
  clear hb
  have hszo := HB.out.size
  have hltO := HO.out.2.2
  have hltR := HR.out.2.2
  obtain ⟨⟨qT0, qT1, qT2⟩, ⟨fT0, fT1, fT2⟩, zT⟩ := HT.out
  obtain ⟨⟨qR0, qR1, qR2, qR3, qR4, qR5, qR6, qR7, qR8⟩, ⟨fR0, fR1, fR2, fR3, fR4, fR5, fR6, fR7, fR8⟩, zR⟩ := HR.out
  obtain ⟨⟨qO0, qO1, qO2, qO3, qO4, qO5, qO6, qO7, qO8⟩, ⟨fO0, fO1, fO2, fO3, fO4, fO5, fO6, fO7, fO8⟩, zO⟩ := HO.out
  go_wp2_with fail
  go_at_call 86
  refine (HORD.out _).mono ?_
  rintro e w4 ⟨gD, rfl, hgD, hbD, hb⟩
  clear qT0 fT0 qT1 fT1 qT2 fT2 zT qR0 fR0 qR1 fR1 qR2 fR2 qR3 fR3 qR4 fR4 qR5 fR5 qR6 fR6 qR7 fR7 qR8 fR8 zR qO0 fO0 qO1 fO1 qO2 fO2 qO3 fO3 qO4 fO4 qO5 fO5 qO6 fO6 qO7 fO7 qO8 fO8 zO
  have HT := Lib.hid (HT.out.below hb)
  have HR := Lib.hid (HR.out.below hb)
  have HO := Lib.hid (HO.out.below hb)
  have HB := Lib.hid (below_after hb HB.out)
  clear hb
  have HD := Lib.hid hbD
  have le_D : w.heap.size ≤ gD := Nat.le_trans hszo hgD
  have ne_O_D : GO ≠ gD := by omega
  have ne_D_O : gD ≠ GO := by omega
  have ne_R_D : GR ≠ gD := by omega
  have ne_D_R : gD ≠ GR := by omega
  clear hbD hgD hszo hltO hltR
  clear HT
  obtain ⟨⟨qR0, qR1, qR2, qR3, qR4, qR5, qR6, qR7, qR8⟩, ⟨fR0, fR1, fR2, fR3, fR4, fR5, fR6, fR7, fR8⟩, zR⟩ := HR.out
  obtain ⟨⟨qO0, qO1, qO2, qO3, qO4, qO5, qO6, qO7, qO8⟩, ⟨fO0, fO1, fO2, fO3, fO4, fO5, fO6, fO7, fO8⟩, zO⟩ := HO.out
  obtain ⟨⟨qD0, qD1, qD2⟩, ⟨fD0, fD1, fD2⟩, zD⟩ := HD.out
  go_upto_region 14 with fail
  obtain ⟨GQ, hGQ⟩ : ∃ g, w4.heap.size = g := ⟨_, rfl⟩
  obtain ⟨w5, hw5⟩ : ∃ wx, wx = w4.alloc (.cells #[.int .i64 0, .int .i64 0, .int .i64 0, .int .i64 0, .int .i64 0, .int .i64 0, .int .i64 0, .int .i64 0, .int .i64 0] 43) := ⟨_, rfl⟩
  rw [← hw5, hGQ]
  have HQ : Hid (Bk9 w5 GQ 0 0 0 0 0 0 0 0 0) := by rw [hw5, ← hGQ]; exact bk9_new w4 0 0 0 0 0 0 0 0 0 _
  have le_Q : w.heap.size ≤ GQ := by rw [← hGQ]; exact HB.out.size
  have ne_Q_R : GQ ≠ GR := by have := HR.out.2.2; omega
  have ne_R_Q : GR ≠ GQ := Ne.symm ne_Q_R
  have ne_Q_O : GQ ≠ GO := by have := HO.out.2.2; omega
  have ne_O_Q : GO ≠ GQ := Ne.symm ne_Q_O
  have ne_Q_D : GQ ≠ gD := by have := HD.out.2.2; omega
  have ne_D_Q : gD ≠ GQ := Ne.symm ne_Q_D
  clear qR0 fR0 qR1 fR1 qR2 fR2 qR3 fR3 qR4 fR4 qR5 fR5 qR6 fR6 qR7 fR7 qR8 fR8 zR qO0 fO0 qO1 fO1 qO2 fO2 qO3 fO3 qO4 fO4 qO5 fO5 qO6 fO6 qO7 fO7 qO8 fO8 zO qD0 fD0 qD1 fD1 qD2 fD2 zD
  have HR := Lib.hid (HR.out.below ((Below.refl _ _).alloc (Nat.le_refl _) (.cells #[.int .i64 0, .int .i64 0, .int .i64 0, .int .i64 0, .int .i64 0, .int .i64 0, .int .i64 0, .int .i64 0, .int .i64 0] 43)))
  have HO := Lib.hid (HO.out.below ((Below.refl _ _).alloc (Nat.le_refl _) (.cells #[.int .i64 0, .int .i64 0, .int .i64 0, .int .i64 0, .int .i64 0, .int .i64 0, .int .i64 0, .int .i64 0, .int .i64 0] 43)))
  have HD := Lib.hid (HD.out.below ((Below.refl _ _).alloc (Nat.le_refl _) (.cells #[.int .i64 0, .int .i64 0, .int .i64 0, .int .i64 0, .int .i64 0, .int .i64 0, .int .i64 0, .int .i64 0, .int .i64 0] 43)))
  have HB := Lib.hid (Below.alloc HB.out HB.out.size (.cells #[.int .i64 0, .int .i64 0, .int .i64 0, .int .i64 0, .int .i64 0, .int .i64 0, .int .i64 0, .int .i64 0, .int .i64 0] 43))
  rw [← hw5] at HR HO HD HB
  clear hw5 hGQ
  go_wp2_with fail
  have HQ := Lib.hid HQ.out.toF
  have HO := Lib.hid HO.out.toF
  obtain ⟨f, hf⟩ : ∃ f, nine 1 0 1 0 1 0 0 0 1 = f := ⟨_, rfl⟩
  have HRES : Hid (E = ag9 (mtF f s)) := by show _ = _; rw [← hf]; exact HRES0.out
  rw [hf] at HO
  clear hf HLESS HORD
  have HNE := Lib.hid (And.intro ne_Q_O (And.intro ne_Q_D (And.intro ne_Q_R (And.intro ne_O_Q (And.intro ne_D_Q (And.intro ne_R_Q (And.intro le_Q le_R)))))))
  go_loopw [8] (fun y wr => ∃ i : Nat, y = .int .i64 (i : Int) ∧ i ≤ 3 ∧ BkF wr GQ (dnF (mtF f s) (i * 3)) ∧ BkF wr GO f ∧ Bk3 wr gD (s.1 : Int) (s.2.1 : Int) (s.2.2 : Int) ∧ Bk9 wr GR 0 0 0 0 0 0 0 0 0 ∧ Below w.heap.size w wr) (fun y _ => 3 - (intOf y).toNat)
  case atStart => exact ⟨0, rfl, by omega, HQ.out.congr (fun c hc => by match c, hc with
    | 0, _ => rfl
    | 1, _ => rfl
    | 2, _ => rfl
    | 3, _ => rfl
    | 4, _ => rfl
    | 5, _ => rfl
    | 6, _ => rfl
    | 7, _ => rfl
    | 8, _ => rfl), HO.out, HD.out, HR.out, HB.out⟩
  case round =>
    obtain ⟨i, rfl, hi, hQ, hO, hD, hR, hbel⟩ := hrel
    clear HQ HO HD HR HB
    have HQ := Lib.hid hQ
    have HO := Lib.hid hO
    have HD := Lib.hid hD
    have HR := Lib.hid hR
    have HB := Lib.hid hbel
    clear hQ hO hD hR hbel
    by_cases hi3 : i < 3
    · have hk0 : decide ((i : Int) < 3) = true := by simp; omega
      go_wp2_with fail
      (try rw [hk0])
      go_loopw [9] (fun y wr => ∃ j : Nat, y = .int .i64 (j : Int) ∧ j ≤ 3 ∧ BkF wr GQ (dnF (mtF f s) (i * 3 + j)) ∧ BkF wr GO f ∧ Bk3 wr gD (s.1 : Int) (s.2.1 : Int) (s.2.2 : Int) ∧ Bk9 wr GR 0 0 0 0 0 0 0 0 0 ∧ Below w.heap.size w wr) (fun y _ => 3 - (intOf y).toNat)
      case atStart => exact ⟨0, rfl, by omega, HQ.out, HO.out, HD.out, HR.out, HB.out⟩
      case round =>
        obtain ⟨j, rfl, hj, hQ, hO, hD, hR, hbel⟩ := hrel
        clear HQ HO HD HR HB
        have HQ := Lib.hid hQ
        have HO := Lib.hid hO
        have HD := Lib.hid hD
        have HR := Lib.hid hR
        have HB := Lib.hid hbel
        clear hQ hO hD hR hbel
        by_cases hj3 : j < 3
        · have hpl := plc_lt HLS.out j
          have c0 := HD.out.at hj3
          rw [pk_plc s hj3] at c0
          have hm := mtF_at f s (i := i) hj3
          obtain ⟨p, hp⟩ : ∃ p, plc s j = p := ⟨_, rfl⟩
          rw [hp] at hpl c0 hm
          have c1 := HO.out.1 (i * 3 + p) (by omega)
          have fz := HQ.out.2.1 (i * 3 + j) (by omega)
          have cz := HQ.out.1 (i * 3 + j) (by omega)
          have hz := HQ.out.2.2
          obtain ⟨X, hX⟩ : ∃ X, f (i * 3 + p) = X := ⟨_, rfl⟩
          obtain ⟨S, hS⟩ : ∃ S, dnF (mtF f s) (i * 3 + j) (i * 3 + j) = S := ⟨_, rfl⟩
          rw [hX] at c1 hm
          rw [hS] at cz
          have HMT := Lib.hid hm
          have i0 : (0 : Int) ≤ (i : Int) := by omega
          have i1 : (i : Int) < 3 := by omega
          have j0 : (0 : Int) ≤ (j : Int) := by omega
          have j1 : (j : Int) < 3 := by omega
          have p0 : (0 : Int) ≤ (p : Int) := by omega
          have p1 : (p : Int) < 3 := by omega
          clear hp hX hm hS
          go_upto_region 20 with fail
          go_still_tail 12, (by kernel_rfl)
          change wpList _ _ _ _ _ (World.drew _)
          obtain ⟨w2, hw2⟩ : ∃ wx, wr.drew = wx := ⟨_, rfl⟩
          rw [hw2]
          have HQ2 : Hid (BkF w2 GQ (dnF (mtF f s) (i * 3 + j))) := by show BkF _ _ _; rw [← hw2]; exact HQ.out
          have HO2 : Hid (BkF w2 GO f) := by show BkF _ _ _; rw [← hw2]; exact HO.out
          have HD2 := Lib.hid (HD.out.below (Below.drew (Below.refl _ _)))
          have HR2 := Lib.hid (HR.out.below (Below.drew (Below.refl _ _)))
          have HB2 := Lib.hid (Below.drew HB.out)
          rw [hw2] at HD2 HR2 HB2
          have fz2 : w2.frozen? ⟨GQ, i * 3 + j, none⟩ = false := by rw [← hw2]; exact fz
          have cz2 : w2.cell? ⟨GQ, i * 3 + j, none⟩ = some (.int .i64 S) := by rw [← hw2]; exact cz
          have hz2 : GQ < w2.heap.size := HQ2.out.2.2
          clear hw2 c0 c1 fz cz hz HQ HO HD HR HB
          obtain ⟨ne_Q_O, ne_Q_D, ne_Q_R, ne_O_Q, ne_D_Q, ne_R_Q, le_Q, le_R⟩ := HNE.out
          go_wp2_with fail
          go_roundw
          case rel =>
            refine ⟨j + 1, by go_num, by omega, (HQ2.out.set (i * 3 + j) (by omega) X).congr (fun c hc => ?_), HO2.out.far ⟨GQ, _, none⟩ _ (by show GO ≠ GQ; exact ne_O_Q), HD2.out.far ⟨GQ, _, none⟩ _ (by show gD ≠ GQ; exact ne_D_Q), HR2.out.far ⟨GQ, _, none⟩ _ (by show GR ≠ GQ; exact ne_R_Q), Below.setCell HB2.out (by exact le_Q) _⟩
            (try dsimp only)
            by_cases e : c = i * 3 + j
            · rw [if_pos e, e]; unfold dnF; rw [if_pos (by omega), HMT.out]
            · rw [if_neg e]; unfold dnF
              by_cases e2 : c < i * 3 + j
              · rw [if_pos e2, if_pos (by omega)]
              · rw [if_neg e2, if_neg (by omega)]
          case measure =>
            show 3 - ((j : Int) + 1).toNat < 3 - ((j : Int)).toNat
            omega
        · have e3 : j = 3 := by omega
          subst e3
          rw [show ((3 : Nat) : Int) = 3 from rfl]
          go_wp2_with fail
          go_roundw
          case rel => exact ⟨i + 1, by go_num, by omega, HQ.out.congr (fun c hc => by rw [show (i + 1) * 3 = i * 3 + 3 from by omega]), HO.out, HD.out, HR.out, HB.out⟩
          case measure =>
            show 3 - ((i : Int) + 1).toNat < 3 - ((i : Int)).toNat
            omega
    · have e3 : i = 3 := by omega
      subst e3
      rw [show ((3 : Nat) : Int) = 3 from rfl]
      have HQ9 := Lib.hid (HQ.out.congr (f' := mtF f s) (fun c hc => by unfold dnF; rw [if_pos (by omega)])).to9
      obtain ⟨ne_Q_O, ne_Q_D, ne_Q_R, ne_O_Q, ne_D_Q, ne_R_Q, le_Q, le_R⟩ := HNE.out
      obtain ⟨P0, hP0⟩ : ∃ P, mtF f s = P := ⟨_, rfl⟩
      rw [hP0] at HQ9 HRES
      obtain ⟨⟨q0, q1, q2, q3, q4, q5, q6, q7, q8⟩, _, zQ⟩ := HQ9.out
      obtain ⟨_, ⟨f0, f1, f2, f3, f4, f5, f6, f7, f8⟩, zR⟩ := HR.out
      clear HO HD HQ hP0
      go_wp2_with fail
      refine bodyPost_ret (v := .agg #[.int .i64 (P0 0), .int .i64 (P0 1), .int .i64 (P0 2), .int .i64 (P0 3), .int .i64 (P0 4), .int .i64 (P0 5), .int .i64 (P0 6), .int .i64 (P0 7), .int .i64 (P0 8)]) (by simp (maxDischargeDepth := 8) [results, Try.results70, go_sem, *]) rfl ?_
      have hb := HB.out
      exact ⟨by rw [HRES.out]; rfl, by (repeat' (first | (with_reducible exact Below.refl _ _) | (with_reducible refine Below.alloc ?_ ?_ _) | (with_reducible refine Below.setCell ?_ ?_ _) | (with_reducible refine Below.drew ?_) | (with_reducible refine below_drewN ?_ _) | (with_reducible assumption) | (with_reducible refine below_after (by with_reducible assumption) ?_) | go_size))⟩
set_option maxHeartbeats 3200000 in
theorem l07Mat_2 (a b c u v z : Int) (s : Nat × Nat × Nat) (E : Value) (w : World) (HLS : Hid (lt3 s)) (HRES0 : Hid (E = ag9 (mtF (nine 1 1 1 0 1 1 0 0 1) s)))
    (HLESS : Hid (∀ w, Calls Try.prog 90 #[.agg #[.int .i64 a, .int .i64 b, .int .i64 c], .int .i64 2] w fun e w' => e = .returned (.agg #[.int .i64 u, .int .i64 v, .int .i64 z]) ∧ Below w.heap.size w w'))
    (HORD : Hid (∀ w, Calls Try.prog 86 #[.agg #[.int .i64 u, .int .i64 v, .int .i64 z]] w fun e w' => ∃ g, e = .returned (.slice (some ⟨g, 0, none⟩) 3 3) ∧ w.heap.size ≤ g ∧ Bk3 w' g (s.1 : Int) (s.2.1 : Int) (s.2.2 : Int) ∧ Below w.heap.size w w')) :
    Calls Try.prog 70 #[.agg #[.int .i64 a, .int .i64 b, .int .i64 c], .int .i64 2] w fun e w' => e = .returned (E) ∧ Below w.heap.size w w' := by
  obtain ⟨GT, hG⟩ : ∃ G, w.heap.size = G := ⟨_, rfl⟩
  have HG := Lib.hid hG
  go_enter Try.func70, Try.ntmps70
  go_upto_region 1 with fail
  obtain ⟨w0, hw0⟩ : ∃ w0, w0 = ((w.alloc (.cells #[.int .i64 a, .int .i64 b, .int .i64 c] 24)).alloc (.cells #[.int .i64 0, .int .i64 0, .int .i64 0, .int .i64 0, .int .i64 0, .int .i64 0, .int .i64 0, .int .i64 0, .int .i64 0] 43)) := ⟨_, rfl⟩
  rw [← hw0]
  have HT : Hid (Bk3 w0 GT a b c) := by
    have h := (bk3_new w a b c 24).below (W' := ((w.alloc (.cells #[.int .i64 a, .int .i64 b, .int .i64 c] 24)).alloc (.cells #[.int .i64 0, .int .i64 0, .int .i64 0, .int .i64 0, .int .i64 0, .int .i64 0, .int .i64 0, .int .i64 0, .int .i64 0] 43))) (by (repeat' (first | (with_reducible exact Below.refl _ _) | (with_reducible refine Below.alloc ?_ ?_ _) | (with_reducible refine Below.setCell ?_ ?_ _) | (with_reducible refine Below.drew ?_) | (with_reducible refine below_drewN ?_ _) | (with_reducible assumption) | (with_reducible refine below_after (by with_reducible assumption) ?_) | go_size)))
    (try simp only [World.size_alloc] at h)
    rw [hG] at h
    rw [hw0]; exact h
  have HR : Hid (Bk9 w0 (GT + 1) 0 0 0 0 0 0 0 0 0) := by
    have h := (bk9_new (w.alloc (.cells #[.int .i64 a, .int .i64 b, .int .i64 c] 24)) 0 0 0 0 0 0 0 0 0 43).below (W' := ((w.alloc (.cells #[.int .i64 a, .int .i64 b, .int .i64 c] 24)).alloc (.cells #[.int .i64 0, .int .i64 0, .int .i64 0, .int .i64 0, .int .i64 0, .int .i64 0, .int .i64 0, .int .i64 0, .int .i64 0] 43))) (by (repeat' (first | (with_reducible exact Below.refl _ _) | (with_reducible refine Below.alloc ?_ ?_ _) | (with_reducible refine Below.setCell ?_ ?_ _) | (with_reducible refine Below.drew ?_) | (with_reducible refine below_drewN ?_ _) | (with_reducible assumption) | (with_reducible refine below_after (by with_reducible assumption) ?_) | go_size)))
    (try simp only [World.size_alloc] at h)
    rw [hG] at h
    rw [hw0]; exact h
  have HB : Hid (Below w.heap.size w w0) := by show Below w.heap.size w w0; rw [hw0]; (repeat' (first | (with_reducible exact Below.refl _ _) | (with_reducible refine Below.alloc ?_ ?_ _) | (with_reducible refine Below.setCell ?_ ?_ _) | (with_reducible refine Below.drew ?_) | (with_reducible refine below_drewN ?_ _) | (with_reducible assumption) | (with_reducible refine below_after (by with_reducible assumption) ?_) | go_size))
  clear hw0
  obtain ⟨GR, hGR⟩ : ∃ g, GT + 1 = g := ⟨_, rfl⟩
  rw [hGR] at HR ⊢
  have le_T : w.heap.size ≤ GT := by omega
  have le_R : w.heap.size ≤ GR := by omega
  have ne_R_T : GR ≠ GT := by omega
  have ne_T_R : GT ≠ GR := by omega
  clear hGR
  obtain ⟨⟨qT0, qT1, qT2⟩, ⟨fT0, fT1, fT2⟩, zT⟩ := HT.out
  obtain ⟨⟨qR0, qR1, qR2, qR3, qR4, qR5, qR6, qR7, qR8⟩, ⟨fR0, fR1, fR2, fR3, fR4, fR5, fR6, fR7, fR8⟩, zR⟩ := HR.out
  go_upto_region 2 with fail
  obtain ⟨GO, hGO⟩ : ∃ g, w0.heap.size = g := ⟨_, rfl⟩
  obtain ⟨w1, hw1⟩ : ∃ wx, wx = w0.alloc (.cells #[.int .i64 1, .int .i64 0, .int .i64 0, .int .i64 0, .int .i64 1, .int .i64 0, .int .i64 0, .int .i64 0, .int .i64 1] 43) := ⟨_, rfl⟩
  rw [← hw1, hGO]
  have HO : Hid (Bk9 w1 GO 1 0 0 0 1 0 0 0 1) := by rw [hw1, ← hGO]; exact bk9_new w0 1 0 0 0 1 0 0 0 1 _
  have le_O : w.heap.size ≤ GO := by rw [← hGO]; exact HB.out.size
  have ne_O_T : GO ≠ GT := by have := HT.out.2.2; omega
  have ne_T_O : GT ≠ GO := Ne.symm ne_O_T
  have ne_O_R : GO ≠ GR := by have := HR.out.2.2; omega
  have ne_R_O : GR ≠ GO := Ne.symm ne_O_R
  clear qT0 fT0 qT1 fT1 qT2 fT2 zT qR0 fR0 qR1 fR1 qR2 fR2 qR3 fR3 qR4 fR4 qR5 fR5 qR6 fR6 qR7 fR7 qR8 fR8 zR
  have HT := Lib.hid (HT.out.below ((Below.refl _ _).alloc (Nat.le_refl _) (.cells #[.int .i64 1, .int .i64 0, .int .i64 0, .int .i64 0, .int .i64 1, .int .i64 0, .int .i64 0, .int .i64 0, .int .i64 1] 43)))
  have HR := Lib.hid (HR.out.below ((Below.refl _ _).alloc (Nat.le_refl _) (.cells #[.int .i64 1, .int .i64 0, .int .i64 0, .int .i64 0, .int .i64 1, .int .i64 0, .int .i64 0, .int .i64 0, .int .i64 1] 43)))
  have HB := Lib.hid (Below.alloc HB.out HB.out.size (.cells #[.int .i64 1, .int .i64 0, .int .i64 0, .int .i64 0, .int .i64 1, .int .i64 0, .int .i64 0, .int .i64 0, .int .i64 1] 43))
  rw [← hw1] at HT HR HB
  clear hw1 hGO
  obtain ⟨⟨qT0, qT1, qT2⟩, ⟨fT0, fT1, fT2⟩, zT⟩ := HT.out
  obtain ⟨⟨qR0, qR1, qR2, qR3, qR4, qR5, qR6, qR7, qR8⟩, ⟨fR0, fR1, fR2, fR3, fR4, fR5, fR6, fR7, fR8⟩, zR⟩ := HR.out
  obtain ⟨⟨qO0, qO1, qO2, qO3, qO4, qO5, qO6, qO7, qO8⟩, ⟨fO0, fO1, fO2, fO3, fO4, fO5, fO6, fO7, fO8⟩, zO⟩ := HO.out
  go_upto_region 13 with fail
  obtain ⟨w2, hw2⟩ : ∃ wx, wx = (((w1.setCell ⟨GO, 1, none⟩ (.int .i64 1)).setCell ⟨GO, 2, none⟩ (.int .i64 1)).setCell ⟨GO, 5, none⟩ (.int .i64 1)) := ⟨_, rfl⟩
  rw [← hw2]
  clear qT0 fT0 qT1 fT1 qT2 fT2 zT qR0 fR0 qR1 fR1 qR2 fR2 qR3 fR3 qR4 fR4 qR5 fR5 qR6 fR6 qR7 fR7 qR8 fR8 zR qO0 fO0 qO1 fO1 qO2 fO2 qO3 fO3 qO4 fO4 qO5 fO5 qO6 fO6 qO7 fO7 qO8 fO8 zO
  have HT := Lib.hid (((HT.out.far ⟨GO, 1, none⟩ (.int .i64 1) (by show GT ≠ GO; exact ne_T_O)).far ⟨GO, 2, none⟩ (.int .i64 1) (by show GT ≠ GO; exact ne_T_O)).far ⟨GO, 5, none⟩ (.int .i64 1) (by show GT ≠ GO; exact ne_T_O))
  have HR := Lib.hid (((HR.out.far ⟨GO, 1, none⟩ (.int .i64 1) (by show GR ≠ GO; exact ne_R_O)).far ⟨GO, 2, none⟩ (.int .i64 1) (by show GR ≠ GO; exact ne_R_O)).far ⟨GO, 5, none⟩ (.int .i64 1) (by show GR ≠ GO; exact ne_R_O))
  have HO := Lib.hid (((HO.out.set1 1).set2 1).set5 1)
  have HB := Lib.hid (Below.setCell (Below.setCell (Below.setCell HB.out (p := ⟨GO, 1, none⟩) le_O (.int .i64 1)) (p := ⟨GO, 2, none⟩) le_O (.int .i64 1)) (p := ⟨GO, 5, none⟩) le_O (.int .i64 1))
  rw [← hw2] at HT HR HO HB
  clear hw2
  obtain ⟨⟨qT0, qT1, qT2⟩, ⟨fT0, fT1, fT2⟩, zT⟩ := HT.out
  obtain ⟨⟨qR0, qR1, qR2, qR3, qR4, qR5, qR6, qR7, qR8⟩, ⟨fR0, fR1, fR2, fR3, fR4, fR5, fR6, fR7, fR8⟩, zR⟩ := HR.out
  obtain ⟨⟨qO0, qO1, qO2, qO3, qO4, qO5, qO6, qO7, qO8⟩, ⟨fO0, fO1, fO2, fO3, fO4, fO5, fO6, fO7, fO8⟩, zO⟩ := HO.out
  go_wp2_with fail
  go_at_call 90
  refine (HLESS.out _).mono ?_
  rintro e w3 ⟨rfl, hb⟩
  clear qT0 fT0 qT1 fT1 qT2 fT2 zT qR0 fR0 qR1 fR1 qR2 fR2 qR3 fR3 qR4 fR4 qR5 fR5 qR6 fR6 qR7 fR7 qR8 fR8 zR qO0 fO0 qO1 fO1 qO2 fO2 qO3 fO3 qO4 fO4 qO5 fO5 qO6 fO6 qO7 fO7 qO8 fO8 zO
  have HT := Lib.hid (HT.out.below hb)
  have HR := Lib.hid (HR.out.below hb)
  have HO := Lib.hid (HO.out.below hb)
  have HB := Lib.hid (below_after hb HB.out)
  clear hb
  have hszo := HB.out.size
  have hltO := HO.out.2.2
  have hltR := HR.out.2.2
  obtain ⟨⟨qT0, qT1, qT2⟩, ⟨fT0, fT1, fT2⟩, zT⟩ := HT.out
  obtain ⟨⟨qR0, qR1, qR2, qR3, qR4, qR5, qR6, qR7, qR8⟩, ⟨fR0, fR1, fR2, fR3, fR4, fR5, fR6, fR7, fR8⟩, zR⟩ := HR.out
  obtain ⟨⟨qO0, qO1, qO2, qO3, qO4, qO5, qO6, qO7, qO8⟩, ⟨fO0, fO1, fO2, fO3, fO4, fO5, fO6, fO7, fO8⟩, zO⟩ := HO.out
  go_wp2_with fail
  go_at_call 86
  refine (HORD.out _).mono ?_
  rintro e w4 ⟨gD, rfl, hgD, hbD, hb⟩
  clear qT0 fT0 qT1 fT1 qT2 fT2 zT qR0 fR0 qR1 fR1 qR2 fR2 qR3 fR3 qR4 fR4 qR5 fR5 qR6 fR6 qR7 fR7 qR8 fR8 zR qO0 fO0 qO1 fO1 qO2 fO2 qO3 fO3 qO4 fO4 qO5 fO5 qO6 fO6 qO7 fO7 qO8 fO8 zO
  have HT := Lib.hid (HT.out.below hb)
  have HR := Lib.hid (HR.out.below hb)
  have HO := Lib.hid (HO.out.below hb)
  have HB := Lib.hid (below_after hb HB.out)
  clear hb
  have HD := Lib.hid hbD
  have le_D : w.heap.size ≤ gD := Nat.le_trans hszo hgD
  have ne_O_D : GO ≠ gD := by omega
  have ne_D_O : gD ≠ GO := by omega
  have ne_R_D : GR ≠ gD := by omega
  have ne_D_R : gD ≠ GR := by omega
  clear hbD hgD hszo hltO hltR
  clear HT
  obtain ⟨⟨qR0, qR1, qR2, qR3, qR4, qR5, qR6, qR7, qR8⟩, ⟨fR0, fR1, fR2, fR3, fR4, fR5, fR6, fR7, fR8⟩, zR⟩ := HR.out
  obtain ⟨⟨qO0, qO1, qO2, qO3, qO4, qO5, qO6, qO7, qO8⟩, ⟨fO0, fO1, fO2, fO3, fO4, fO5, fO6, fO7, fO8⟩, zO⟩ := HO.out
  obtain ⟨⟨qD0, qD1, qD2⟩, ⟨fD0, fD1, fD2⟩, zD⟩ := HD.out
  go_upto_region 14 with fail
  obtain ⟨GQ, hGQ⟩ : ∃ g, w4.heap.size = g := ⟨_, rfl⟩
  obtain ⟨w5, hw5⟩ : ∃ wx, wx = w4.alloc (.cells #[.int .i64 0, .int .i64 0, .int .i64 0, .int .i64 0, .int .i64 0, .int .i64 0, .int .i64 0, .int .i64 0, .int .i64 0] 43) := ⟨_, rfl⟩
  rw [← hw5, hGQ]
  have HQ : Hid (Bk9 w5 GQ 0 0 0 0 0 0 0 0 0) := by rw [hw5, ← hGQ]; exact bk9_new w4 0 0 0 0 0 0 0 0 0 _
  have le_Q : w.heap.size ≤ GQ := by rw [← hGQ]; exact HB.out.size
  have ne_Q_R : GQ ≠ GR := by have := HR.out.2.2; omega
  have ne_R_Q : GR ≠ GQ := Ne.symm ne_Q_R
  have ne_Q_O : GQ ≠ GO := by have := HO.out.2.2; omega
  have ne_O_Q : GO ≠ GQ := Ne.symm ne_Q_O
  have ne_Q_D : GQ ≠ gD := by have := HD.out.2.2; omega
  have ne_D_Q : gD ≠ GQ := Ne.symm ne_Q_D
  clear qR0 fR0 qR1 fR1 qR2 fR2 qR3 fR3 qR4 fR4 qR5 fR5 qR6 fR6 qR7 fR7 qR8 fR8 zR qO0 fO0 qO1 fO1 qO2 fO2 qO3 fO3 qO4 fO4 qO5 fO5 qO6 fO6 qO7 fO7 qO8 fO8 zO qD0 fD0 qD1 fD1 qD2 fD2 zD
  have HR := Lib.hid (HR.out.below ((Below.refl _ _).alloc (Nat.le_refl _) (.cells #[.int .i64 0, .int .i64 0, .int .i64 0, .int .i64 0, .int .i64 0, .int .i64 0, .int .i64 0, .int .i64 0, .int .i64 0] 43)))
  have HO := Lib.hid (HO.out.below ((Below.refl _ _).alloc (Nat.le_refl _) (.cells #[.int .i64 0, .int .i64 0, .int .i64 0, .int .i64 0, .int .i64 0, .int .i64 0, .int .i64 0, .int .i64 0, .int .i64 0] 43)))
  have HD := Lib.hid (HD.out.below ((Below.refl _ _).alloc (Nat.le_refl _) (.cells #[.int .i64 0, .int .i64 0, .int .i64 0, .int .i64 0, .int .i64 0, .int .i64 0, .int .i64 0, .int .i64 0, .int .i64 0] 43)))
  have HB := Lib.hid (Below.alloc HB.out HB.out.size (.cells #[.int .i64 0, .int .i64 0, .int .i64 0, .int .i64 0, .int .i64 0, .int .i64 0, .int .i64 0, .int .i64 0, .int .i64 0] 43))
  rw [← hw5] at HR HO HD HB
  clear hw5 hGQ
  go_wp2_with fail
  have HQ := Lib.hid HQ.out.toF
  have HO := Lib.hid HO.out.toF
  obtain ⟨f, hf⟩ : ∃ f, nine 1 1 1 0 1 1 0 0 1 = f := ⟨_, rfl⟩
  have HRES : Hid (E = ag9 (mtF f s)) := by show _ = _; rw [← hf]; exact HRES0.out
  rw [hf] at HO
  clear hf HLESS HORD
  have HNE := Lib.hid (And.intro ne_Q_O (And.intro ne_Q_D (And.intro ne_Q_R (And.intro ne_O_Q (And.intro ne_D_Q (And.intro ne_R_Q (And.intro le_Q le_R)))))))
  go_loopw [8] (fun y wr => ∃ i : Nat, y = .int .i64 (i : Int) ∧ i ≤ 3 ∧ BkF wr GQ (dnF (mtF f s) (i * 3)) ∧ BkF wr GO f ∧ Bk3 wr gD (s.1 : Int) (s.2.1 : Int) (s.2.2 : Int) ∧ Bk9 wr GR 0 0 0 0 0 0 0 0 0 ∧ Below w.heap.size w wr) (fun y _ => 3 - (intOf y).toNat)
  case atStart => exact ⟨0, rfl, by omega, HQ.out.congr (fun c hc => by match c, hc with
    | 0, _ => rfl
    | 1, _ => rfl
    | 2, _ => rfl
    | 3, _ => rfl
    | 4, _ => rfl
    | 5, _ => rfl
    | 6, _ => rfl
    | 7, _ => rfl
    | 8, _ => rfl), HO.out, HD.out, HR.out, HB.out⟩
  case round =>
    obtain ⟨i, rfl, hi, hQ, hO, hD, hR, hbel⟩ := hrel
    clear HQ HO HD HR HB
    have HQ := Lib.hid hQ
    have HO := Lib.hid hO
    have HD := Lib.hid hD
    have HR := Lib.hid hR
    have HB := Lib.hid hbel
    clear hQ hO hD hR hbel
    by_cases hi3 : i < 3
    · have hk0 : decide ((i : Int) < 3) = true := by simp; omega
      go_wp2_with fail
      (try rw [hk0])
      go_loopw [9] (fun y wr => ∃ j : Nat, y = .int .i64 (j : Int) ∧ j ≤ 3 ∧ BkF wr GQ (dnF (mtF f s) (i * 3 + j)) ∧ BkF wr GO f ∧ Bk3 wr gD (s.1 : Int) (s.2.1 : Int) (s.2.2 : Int) ∧ Bk9 wr GR 0 0 0 0 0 0 0 0 0 ∧ Below w.heap.size w wr) (fun y _ => 3 - (intOf y).toNat)
      case atStart => exact ⟨0, rfl, by omega, HQ.out, HO.out, HD.out, HR.out, HB.out⟩
      case round =>
        obtain ⟨j, rfl, hj, hQ, hO, hD, hR, hbel⟩ := hrel
        clear HQ HO HD HR HB
        have HQ := Lib.hid hQ
        have HO := Lib.hid hO
        have HD := Lib.hid hD
        have HR := Lib.hid hR
        have HB := Lib.hid hbel
        clear hQ hO hD hR hbel
        by_cases hj3 : j < 3
        · have hpl := plc_lt HLS.out j
          have c0 := HD.out.at hj3
          rw [pk_plc s hj3] at c0
          have hm := mtF_at f s (i := i) hj3
          obtain ⟨p, hp⟩ : ∃ p, plc s j = p := ⟨_, rfl⟩
          rw [hp] at hpl c0 hm
          have c1 := HO.out.1 (i * 3 + p) (by omega)
          have fz := HQ.out.2.1 (i * 3 + j) (by omega)
          have cz := HQ.out.1 (i * 3 + j) (by omega)
          have hz := HQ.out.2.2
          obtain ⟨X, hX⟩ : ∃ X, f (i * 3 + p) = X := ⟨_, rfl⟩
          obtain ⟨S, hS⟩ : ∃ S, dnF (mtF f s) (i * 3 + j) (i * 3 + j) = S := ⟨_, rfl⟩
          rw [hX] at c1 hm
          rw [hS] at cz
          have HMT := Lib.hid hm
          have i0 : (0 : Int) ≤ (i : Int) := by omega
          have i1 : (i : Int) < 3 := by omega
          have j0 : (0 : Int) ≤ (j : Int) := by omega
          have j1 : (j : Int) < 3 := by omega
          have p0 : (0 : Int) ≤ (p : Int) := by omega
          have p1 : (p : Int) < 3 := by omega
          clear hp hX hm hS
          go_upto_region 20 with fail
          go_still_tail 12, (by kernel_rfl)
          change wpList _ _ _ _ _ (World.drew _)
          obtain ⟨w2, hw2⟩ : ∃ wx, wr.drew = wx := ⟨_, rfl⟩
          rw [hw2]
          have HQ2 : Hid (BkF w2 GQ (dnF (mtF f s) (i * 3 + j))) := by show BkF _ _ _; rw [← hw2]; exact HQ.out
          have HO2 : Hid (BkF w2 GO f) := by show BkF _ _ _; rw [← hw2]; exact HO.out
          have HD2 := Lib.hid (HD.out.below (Below.drew (Below.refl _ _)))
          have HR2 := Lib.hid (HR.out.below (Below.drew (Below.refl _ _)))
          have HB2 := Lib.hid (Below.drew HB.out)
          rw [hw2] at HD2 HR2 HB2
          have fz2 : w2.frozen? ⟨GQ, i * 3 + j, none⟩ = false := by rw [← hw2]; exact fz
          have cz2 : w2.cell? ⟨GQ, i * 3 + j, none⟩ = some (.int .i64 S) := by rw [← hw2]; exact cz
          have hz2 : GQ < w2.heap.size := HQ2.out.2.2
          clear hw2 c0 c1 fz cz hz HQ HO HD HR HB
          obtain ⟨ne_Q_O, ne_Q_D, ne_Q_R, ne_O_Q, ne_D_Q, ne_R_Q, le_Q, le_R⟩ := HNE.out
          go_wp2_with fail
          go_roundw
          case rel =>
            refine ⟨j + 1, by go_num, by omega, (HQ2.out.set (i * 3 + j) (by omega) X).congr (fun c hc => ?_), HO2.out.far ⟨GQ, _, none⟩ _ (by show GO ≠ GQ; exact ne_O_Q), HD2.out.far ⟨GQ, _, none⟩ _ (by show gD ≠ GQ; exact ne_D_Q), HR2.out.far ⟨GQ, _, none⟩ _ (by show GR ≠ GQ; exact ne_R_Q), Below.setCell HB2.out (by exact le_Q) _⟩
            (try dsimp only)
            by_cases e : c = i * 3 + j
            · rw [if_pos e, e]; unfold dnF; rw [if_pos (by omega), HMT.out]
            · rw [if_neg e]; unfold dnF
              by_cases e2 : c < i * 3 + j
              · rw [if_pos e2, if_pos (by omega)]
              · rw [if_neg e2, if_neg (by omega)]
          case measure =>
            show 3 - ((j : Int) + 1).toNat < 3 - ((j : Int)).toNat
            omega
        · have e3 : j = 3 := by omega
          subst e3
          rw [show ((3 : Nat) : Int) = 3 from rfl]
          go_wp2_with fail
          go_roundw
          case rel => exact ⟨i + 1, by go_num, by omega, HQ.out.congr (fun c hc => by rw [show (i + 1) * 3 = i * 3 + 3 from by omega]), HO.out, HD.out, HR.out, HB.out⟩
          case measure =>
            show 3 - ((i : Int) + 1).toNat < 3 - ((i : Int)).toNat
            omega
    · have e3 : i = 3 := by omega
      subst e3
      rw [show ((3 : Nat) : Int) = 3 from rfl]
      have HQ9 := Lib.hid (HQ.out.congr (f' := mtF f s) (fun c hc => by unfold dnF; rw [if_pos (by omega)])).to9
      obtain ⟨ne_Q_O, ne_Q_D, ne_Q_R, ne_O_Q, ne_D_Q, ne_R_Q, le_Q, le_R⟩ := HNE.out
      obtain ⟨P0, hP0⟩ : ∃ P, mtF f s = P := ⟨_, rfl⟩
      rw [hP0] at HQ9 HRES
      obtain ⟨⟨q0, q1, q2, q3, q4, q5, q6, q7, q8⟩, _, zQ⟩ := HQ9.out
      obtain ⟨_, ⟨f0, f1, f2, f3, f4, f5, f6, f7, f8⟩, zR⟩ := HR.out
      clear HO HD HQ hP0
      go_wp2_with fail
      refine bodyPost_ret (v := .agg #[.int .i64 (P0 0), .int .i64 (P0 1), .int .i64 (P0 2), .int .i64 (P0 3), .int .i64 (P0 4), .int .i64 (P0 5), .int .i64 (P0 6), .int .i64 (P0 7), .int .i64 (P0 8)]) (by simp (maxDischargeDepth := 8) [results, Try.results70, go_sem, *]) rfl ?_
      have hb := HB.out
      exact ⟨by rw [HRES.out]; rfl, by (repeat' (first | (with_reducible exact Below.refl _ _) | (with_reducible refine Below.alloc ?_ ?_ _) | (with_reducible refine Below.setCell ?_ ?_ _) | (with_reducible refine Below.drew ?_) | (with_reducible refine below_drewN ?_ _) | (with_reducible assumption) | (with_reducible refine below_after (by with_reducible assumption) ?_) | go_size))⟩
set_option maxHeartbeats 3200000 in
theorem l07Mat_3 (a b c u v z : Int) (s : Nat × Nat × Nat) (E : Value) (w : World) (HLS : Hid (lt3 s)) (HRES0 : Hid (E = ag9 (mtF (nine 1 0 1 0 1 1 0 0 1) s)))
    (HLESS : Hid (∀ w, Calls Try.prog 90 #[.agg #[.int .i64 a, .int .i64 b, .int .i64 c], .int .i64 3] w fun e w' => e = .returned (.agg #[.int .i64 u, .int .i64 v, .int .i64 z]) ∧ Below w.heap.size w w'))
    (HORD : Hid (∀ w, Calls Try.prog 86 #[.agg #[.int .i64 u, .int .i64 v, .int .i64 z]] w fun e w' => ∃ g, e = .returned (.slice (some ⟨g, 0, none⟩) 3 3) ∧ w.heap.size ≤ g ∧ Bk3 w' g (s.1 : Int) (s.2.1 : Int) (s.2.2 : Int) ∧ Below w.heap.size w w')) :
    Calls Try.prog 70 #[.agg #[.int .i64 a, .int .i64 b, .int .i64 c], .int .i64 3] w fun e w' => e = .returned (E) ∧ Below w.heap.size w w' := by
  obtain ⟨GT, hG⟩ : ∃ G, w.heap.size = G := ⟨_, rfl⟩
  have HG := Lib.hid hG
  go_enter Try.func70, Try.ntmps70
  go_upto_region 1 with fail
  obtain ⟨w0, hw0⟩ : ∃ w0, w0 = ((w.alloc (.cells #[.int .i64 a, .int .i64 b, .int .i64 c] 24)).alloc (.cells #[.int .i64 0, .int .i64 0, .int .i64 0, .int .i64 0, .int .i64 0, .int .i64 0, .int .i64 0, .int .i64 0, .int .i64 0] 43)) := ⟨_, rfl⟩
  rw [← hw0]
  have HT : Hid (Bk3 w0 GT a b c) := by
    have h := (bk3_new w a b c 24).below (W' := ((w.alloc (.cells #[.int .i64 a, .int .i64 b, .int .i64 c] 24)).alloc (.cells #[.int .i64 0, .int .i64 0, .int .i64 0, .int .i64 0, .int .i64 0, .int .i64 0, .int .i64 0, .int .i64 0, .int .i64 0] 43))) (by (repeat' (first | (with_reducible exact Below.refl _ _) | (with_reducible refine Below.alloc ?_ ?_ _) | (with_reducible refine Below.setCell ?_ ?_ _) | (with_reducible refine Below.drew ?_) | (with_reducible refine below_drewN ?_ _) | (with_reducible assumption) | (with_reducible refine below_after (by with_reducible assumption) ?_) | go_size)))
    (try simp only [World.size_alloc] at h)
    rw [hG] at h
    rw [hw0]; exact h
  have HR : Hid (Bk9 w0 (GT + 1) 0 0 0 0 0 0 0 0 0) := by
    have h := (bk9_new (w.alloc (.cells #[.int .i64 a, .int .i64 b, .int .i64 c] 24)) 0 0 0 0 0 0 0 0 0 43).below (W' := ((w.alloc (.cells #[.int .i64 a, .int .i64 b, .int .i64 c] 24)).alloc (.cells #[.int .i64 0, .int .i64 0, .int .i64 0, .int .i64 0, .int .i64 0, .int .i64 0, .int .i64 0, .int .i64 0, .int .i64 0] 43))) (by (repeat' (first | (with_reducible exact Below.refl _ _) | (with_reducible refine Below.alloc ?_ ?_ _) | (with_reducible refine Below.setCell ?_ ?_ _) | (with_reducible refine Below.drew ?_) | (with_reducible refine below_drewN ?_ _) | (with_reducible assumption) | (with_reducible refine below_after (by with_reducible assumption) ?_) | go_size)))
    (try simp only [World.size_alloc] at h)
    rw [hG] at h
    rw [hw0]; exact h
  have HB : Hid (Below w.heap.size w w0) := by show Below w.heap.size w w0; rw [hw0]; (repeat' (first | (with_reducible exact Below.refl _ _) | (with_reducible refine Below.alloc ?_ ?_ _) | (with_reducible refine Below.setCell ?_ ?_ _) | (with_reducible refine Below.drew ?_) | (with_reducible refine below_drewN ?_ _) | (with_reducible assumption) | (with_reducible refine below_after (by with_reducible assumption) ?_) | go_size))
  clear hw0
  obtain ⟨GR, hGR⟩ : ∃ g, GT + 1 = g := ⟨_, rfl⟩
  rw [hGR] at HR ⊢
  have le_T : w.heap.size ≤ GT := by omega
  have le_R : w.heap.size ≤ GR := by omega
  have ne_R_T : GR ≠ GT := by omega
  have ne_T_R : GT ≠ GR := by omega
  clear hGR
  obtain ⟨⟨qT0, qT1, qT2⟩, ⟨fT0, fT1, fT2⟩, zT⟩ := HT.out
  obtain ⟨⟨qR0, qR1, qR2, qR3, qR4, qR5, qR6, qR7, qR8⟩, ⟨fR0, fR1, fR2, fR3, fR4, fR5, fR6, fR7, fR8⟩, zR⟩ := HR.out
  go_upto_region 2 with fail
  obtain ⟨GO, hGO⟩ : ∃ g, w0.heap.size = g := ⟨_, rfl⟩
  obtain ⟨w1, hw1⟩ : ∃ wx, wx = w0.alloc (.cells #[.int .i64 1, .int .i64 0, .int .i64 0, .int .i64 0, .int .i64 1, .int .i64 0, .int .i64 0, .int .i64 0, .int .i64 1] 43) := ⟨_, rfl⟩
  rw [← hw1, hGO]
  have HO : Hid (Bk9 w1 GO 1 0 0 0 1 0 0 0 1) := by rw [hw1, ← hGO]; exact bk9_new w0 1 0 0 0 1 0 0 0 1 _
  have le_O : w.heap.size ≤ GO := by rw [← hGO]; exact HB.out.size
  have ne_O_T : GO ≠ GT := by have := HT.out.2.2; omega
  have ne_T_O : GT ≠ GO := Ne.symm ne_O_T
  have ne_O_R : GO ≠ GR := by have := HR.out.2.2; omega
  have ne_R_O : GR ≠ GO := Ne.symm ne_O_R
  clear qT0 fT0 qT1 fT1 qT2 fT2 zT qR0 fR0 qR1 fR1 qR2 fR2 qR3 fR3 qR4 fR4 qR5 fR5 qR6 fR6 qR7 fR7 qR8 fR8 zR
  have HT := Lib.hid (HT.out.below ((Below.refl _ _).alloc (Nat.le_refl _) (.cells #[.int .i64 1, .int .i64 0, .int .i64 0, .int .i64 0, .int .i64 1, .int .i64 0, .int .i64 0, .int .i64 0, .int .i64 1] 43)))
  have HR := Lib.hid (HR.out.below ((Below.refl _ _).alloc (Nat.le_refl _) (.cells #[.int .i64 1, .int .i64 0, .int .i64 0, .int .i64 0, .int .i64 1, .int .i64 0, .int .i64 0, .int .i64 0, .int .i64 1] 43)))
  have HB := Lib.hid (Below.alloc HB.out HB.out.size (.cells #[.int .i64 1, .int .i64 0, .int .i64 0, .int .i64 0, .int .i64 1, .int .i64 0, .int .i64 0, .int .i64 0, .int .i64 1] 43))
  rw [← hw1] at HT HR HB
  clear hw1 hGO
  obtain ⟨⟨qT0, qT1, qT2⟩, ⟨fT0, fT1, fT2⟩, zT⟩ := HT.out
  obtain ⟨⟨qR0, qR1, qR2, qR3, qR4, qR5, qR6, qR7, qR8⟩, ⟨fR0, fR1, fR2, fR3, fR4, fR5, fR6, fR7, fR8⟩, zR⟩ := HR.out
  obtain ⟨⟨qO0, qO1, qO2, qO3, qO4, qO5, qO6, qO7, qO8⟩, ⟨fO0, fO1, fO2, fO3, fO4, fO5, fO6, fO7, fO8⟩, zO⟩ := HO.out
  go_upto_region 13 with fail
  obtain ⟨w2, hw2⟩ : ∃ wx, wx = ((w1.setCell ⟨GO, 2, none⟩ (.int .i64 1)).setCell ⟨GO, 5, none⟩ (.int .i64 1)) := ⟨_, rfl⟩
  rw [← hw2]
  clear qT0 fT0 qT1 fT1 qT2 fT2 zT qR0 fR0 qR1 fR1 qR2 fR2 qR3 fR3 qR4 fR4 qR5 fR5 qR6 fR6 qR7 fR7 qR8 fR8 zR qO0 fO0 qO1 fO1 qO2 fO2 qO3 fO3 qO4 fO4 qO5 fO5 qO6 fO6 qO7 fO7 qO8 fO8 zO
  have HT := Lib.hid ((HT.out.far ⟨GO, 2, none⟩ (.int .i64 1) (by show GT ≠ GO; exact ne_T_O)).far ⟨GO, 5, none⟩ (.int .i64 1) (by show GT ≠ GO; exact ne_T_O))
  have HR := Lib.hid ((HR.out.far ⟨GO, 2, none⟩ (.int .i64 1) (by show GR ≠ GO; exact ne_R_O)).far ⟨GO, 5, none⟩ (.int .i64 1) (by show GR ≠ GO; exact ne_R_O))
  have HO := Lib.hid ((HO.out.set2 1).set5 1)
  have HB := Lib.hid (Below.setCell (Below.setCell HB.out (p := ⟨GO, 2, none⟩) le_O (.int .i64 1)) (p := ⟨GO, 5, none⟩) le_O (.int .i64 1))
  rw [← hw2] at HT HR HO HB
  clear hw2
  obtain ⟨⟨qT0, qT1, qT2⟩, ⟨fT0, fT1, fT2⟩, zT⟩ := HT.out
  obtain ⟨⟨qR0, qR1, qR2, qR3, qR4, qR5, qR6, qR7, qR8⟩, ⟨fR0, fR1, fR2, fR3, fR4, fR5, fR6, fR7, fR8⟩, zR⟩ := HR.out
  obtain ⟨⟨qO0, qO1, qO2, qO3, qO4, qO5, qO6, qO7, qO8⟩, ⟨fO0, fO1, fO2, fO3, fO4, fO5, fO6, fO7, fO8⟩, zO⟩ := HO.out
  go_wp2_with fail
  go_at_call 90
  refine (HLESS.out _).mono ?_
  rintro e w3 ⟨rfl, hb⟩
  clear qT0 fT0 qT1 fT1 qT2 fT2 zT qR0 fR0 qR1 fR1 qR2 fR2 qR3 fR3 qR4 fR4 qR5 fR5 qR6 fR6 qR7 fR7 qR8 fR8 zR qO0 fO0 qO1 fO1 qO2 fO2 qO3 fO3 qO4 fO4 qO5 fO5 qO6 fO6 qO7 fO7 qO8 fO8 zO
  have HT := Lib.hid (HT.out.below hb)
  have HR := Lib.hid (HR.out.below hb)
  have HO := Lib.hid (HO.out.below hb)
  have HB := Lib.hid (below_after hb HB.out)
  clear hb
  have hszo := HB.out.size
  have hltO := HO.out.2.2
  have hltR := HR.out.2.2
  obtain ⟨⟨qT0, qT1, qT2⟩, ⟨fT0, fT1, fT2⟩, zT⟩ := HT.out
  obtain ⟨⟨qR0, qR1, qR2, qR3, qR4, qR5, qR6, qR7, qR8⟩, ⟨fR0, fR1, fR2, fR3, fR4, fR5, fR6, fR7, fR8⟩, zR⟩ := HR.out
  obtain ⟨⟨qO0, qO1, qO2, qO3, qO4, qO5, qO6, qO7, qO8⟩, ⟨fO0, fO1, fO2, fO3, fO4, fO5, fO6, fO7, fO8⟩, zO⟩ := HO.out
  go_wp2_with fail
  go_at_call 86
  refine (HORD.out _).mono ?_
  rintro e w4 ⟨gD, rfl, hgD, hbD, hb⟩
  clear qT0 fT0 qT1 fT1 qT2 fT2 zT qR0 fR0 qR1 fR1 qR2 fR2 qR3 fR3 qR4 fR4 qR5 fR5 qR6 fR6 qR7 fR7 qR8 fR8 zR qO0 fO0 qO1 fO1 qO2 fO2 qO3 fO3 qO4 fO4 qO5 fO5 qO6 fO6 qO7 fO7 qO8 fO8 zO
  have HT := Lib.hid (HT.out.below hb)
  have HR := Lib.hid (HR.out.below hb)
  have HO := Lib.hid (HO.out.below hb)
  have HB := Lib.hid (below_after hb HB.out)
  clear hb
  have HD := Lib.hid hbD
  have le_D : w.heap.size ≤ gD := Nat.le_trans hszo hgD
  have ne_O_D : GO ≠ gD := by omega
  have ne_D_O : gD ≠ GO := by omega
  have ne_R_D : GR ≠ gD := by omega
  have ne_D_R : gD ≠ GR := by omega
  clear hbD hgD hszo hltO hltR
  clear HT
  obtain ⟨⟨qR0, qR1, qR2, qR3, qR4, qR5, qR6, qR7, qR8⟩, ⟨fR0, fR1, fR2, fR3, fR4, fR5, fR6, fR7, fR8⟩, zR⟩ := HR.out
  obtain ⟨⟨qO0, qO1, qO2, qO3, qO4, qO5, qO6, qO7, qO8⟩, ⟨fO0, fO1, fO2, fO3, fO4, fO5, fO6, fO7, fO8⟩, zO⟩ := HO.out
  obtain ⟨⟨qD0, qD1, qD2⟩, ⟨fD0, fD1, fD2⟩, zD⟩ := HD.out
  go_upto_region 14 with fail
  obtain ⟨GQ, hGQ⟩ : ∃ g, w4.heap.size = g := ⟨_, rfl⟩
  obtain ⟨w5, hw5⟩ : ∃ wx, wx = w4.alloc (.cells #[.int .i64 0, .int .i64 0, .int .i64 0, .int .i64 0, .int .i64 0, .int .i64 0, .int .i64 0, .int .i64 0, .int .i64 0] 43) := ⟨_, rfl⟩
  rw [← hw5, hGQ]
  have HQ : Hid (Bk9 w5 GQ 0 0 0 0 0 0 0 0 0) := by rw [hw5, ← hGQ]; exact bk9_new w4 0 0 0 0 0 0 0 0 0 _
  have le_Q : w.heap.size ≤ GQ := by rw [← hGQ]; exact HB.out.size
  have ne_Q_R : GQ ≠ GR := by have := HR.out.2.2; omega
  have ne_R_Q : GR ≠ GQ := Ne.symm ne_Q_R
  have ne_Q_O : GQ ≠ GO := by have := HO.out.2.2; omega
  have ne_O_Q : GO ≠ GQ := Ne.symm ne_Q_O
  have ne_Q_D : GQ ≠ gD := by have := HD.out.2.2; omega
  have ne_D_Q : gD ≠ GQ := Ne.symm ne_Q_D
  clear qR0 fR0 qR1 fR1 qR2 fR2 qR3 fR3 qR4 fR4 qR5 fR5 qR6 fR6 qR7 fR7 qR8 fR8 zR qO0 fO0 qO1 fO1 qO2 fO2 qO3 fO3 qO4 fO4 qO5 fO5 qO6 fO6 qO7 fO7 qO8 fO8 zO qD0 fD0 qD1 fD1 qD2 fD2 zD
  have HR := Lib.hid (HR.out.below ((Below.refl _ _).alloc (Nat.le_refl _) (.cells #[.int .i64 0, .int .i64 0, .int .i64 0, .int .i64 0, .int .i64 0, .int .i64 0, .int .i64 0, .int .i64 0, .int .i64 0] 43)))
  have HO := Lib.hid (HO.out.below ((Below.refl _ _).alloc (Nat.le_refl _) (.cells #[.int .i64 0, .int .i64 0, .int .i64 0, .int .i64 0, .int .i64 0, .int .i64 0, .int .i64 0, .int .i64 0, .int .i64 0] 43)))
  have HD := Lib.hid (HD.out.below ((Below.refl _ _).alloc (Nat.le_refl _) (.cells #[.int .i64 0, .int .i64 0, .int .i64 0, .int .i64 0, .int .i64 0, .int .i64 0, .int .i64 0, .int .i64 0, .int .i64 0] 43)))
  have HB := Lib.hid (Below.alloc HB.out HB.out.size (.cells #[.int .i64 0, .int .i64 0, .int .i64 0, .int .i64 0, .int .i64 0, .int .i64 0, .int .i64 0, .int .i64 0, .int .i64 0] 43))
  rw [← hw5] at HR HO HD HB
  clear hw5 hGQ
  go_wp2_with fail
  have HQ := Lib.hid HQ.out.toF
  have HO := Lib.hid HO.out.toF
  obtain ⟨f, hf⟩ : ∃ f, nine 1 0 1 0 1 1 0 0 1 = f := ⟨_, rfl⟩
  have HRES : Hid (E = ag9 (mtF f s)) := by show _ = _; rw [← hf]; exact HRES0.out
  rw [hf] at HO
  clear hf HLESS HORD
  have HNE := Lib.hid (And.intro ne_Q_O (And.intro ne_Q_D (And.intro ne_Q_R (And.intro ne_O_Q (And.intro ne_D_Q (And.intro ne_R_Q (And.intro le_Q le_R)))))))
  go_loopw [8] (fun y wr => ∃ i : Nat, y = .int .i64 (i : Int) ∧ i ≤ 3 ∧ BkF wr GQ (dnF (mtF f s) (i * 3)) ∧ BkF wr GO f ∧ Bk3 wr gD (s.1 : Int) (s.2.1 : Int) (s.2.2 : Int) ∧ Bk9 wr GR 0 0 0 0 0 0 0 0 0 ∧ Below w.heap.size w wr) (fun y _ => 3 - (intOf y).toNat)
  case atStart => exact ⟨0, rfl, by omega, HQ.out.congr (fun c hc => by match c, hc with
    | 0, _ => rfl
    | 1, _ => rfl
    | 2, _ => rfl
    | 3, _ => rfl
    | 4, _ => rfl
    | 5, _ => rfl
    | 6, _ => rfl
    | 7, _ => rfl
    | 8, _ => rfl), HO.out, HD.out, HR.out, HB.out⟩
  case round =>
    obtain ⟨i, rfl, hi, hQ, hO, hD, hR, hbel⟩ := hrel
    clear HQ HO HD HR HB
    have HQ := Lib.hid hQ
    have HO := Lib.hid hO
    have HD := Lib.hid hD
    have HR := Lib.hid hR
    have HB := Lib.hid hbel
    clear hQ hO hD hR hbel
    by_cases hi3 : i < 3
    · have hk0 : decide ((i : Int) < 3) = true := by simp; omega
      go_wp2_with fail
      (try rw [hk0])
      go_loopw [9] (fun y wr => ∃ j : Nat, y = .int .i64 (j : Int) ∧ j ≤ 3 ∧ BkF wr GQ (dnF (mtF f s) (i * 3 + j)) ∧ BkF wr GO f ∧ Bk3 wr gD (s.1 : Int) (s.2.1 : Int) (s.2.2 : Int) ∧ Bk9 wr GR 0 0 0 0 0 0 0 0 0 ∧ Below w.heap.size w wr) (fun y _ => 3 - (intOf y).toNat)
      case atStart => exact ⟨0, rfl, by omega, HQ.out, HO.out, HD.out, HR.out, HB.out⟩
      case round =>
        obtain ⟨j, rfl, hj, hQ, hO, hD, hR, hbel⟩ := hrel
        clear HQ HO HD HR HB
        have HQ := Lib.hid hQ
        have HO := Lib.hid hO
        have HD := Lib.hid hD
        have HR := Lib.hid hR
        have HB := Lib.hid hbel
        clear hQ hO hD hR hbel
        by_cases hj3 : j < 3
        · have hpl := plc_lt HLS.out j
          have c0 := HD.out.at hj3
          rw [pk_plc s hj3] at c0
          have hm := mtF_at f s (i := i) hj3
          obtain ⟨p, hp⟩ : ∃ p, plc s j = p := ⟨_, rfl⟩
          rw [hp] at hpl c0 hm
          have c1 := HO.out.1 (i * 3 + p) (by omega)
          have fz := HQ.out.2.1 (i * 3 + j) (by omega)
          have cz := HQ.out.1 (i * 3 + j) (by omega)
          have hz := HQ.out.2.2
          obtain ⟨X, hX⟩ : ∃ X, f (i * 3 + p) = X := ⟨_, rfl⟩
          obtain ⟨S, hS⟩ : ∃ S, dnF (mtF f s) (i * 3 + j) (i * 3 + j) = S := ⟨_, rfl⟩
          rw [hX] at c1 hm
          rw [hS] at cz
          have HMT := Lib.hid hm
          have i0 : (0 : Int) ≤ (i : Int) := by omega
          have i1 : (i : Int) < 3 := by omega
          have j0 : (0 : Int) ≤ (j : Int) := by omega
          have j1 : (j : Int) < 3 := by omega
          have p0 : (0 : Int) ≤ (p : Int) := by omega
          have p1 : (p : Int) < 3 := by omega
          clear hp hX hm hS
          go_upto_region 20 with fail
          go_still_tail 12, (by kernel_rfl)
          change wpList _ _ _ _ _ (World.drew _)
          obtain ⟨w2, hw2⟩ : ∃ wx, wr.drew = wx := ⟨_, rfl⟩
          rw [hw2]
          have HQ2 : Hid (BkF w2 GQ (dnF (mtF f s) (i * 3 + j))) := by show BkF _ _ _; rw [← hw2]; exact HQ.out
          have HO2 : Hid (BkF w2 GO f) := by show BkF _ _ _; rw [← hw2]; exact HO.out
          have HD2 := Lib.hid (HD.out.below (Below.drew (Below.refl _ _)))
          have HR2 := Lib.hid (HR.out.below (Below.drew (Below.refl _ _)))
          have HB2 := Lib.hid (Below.drew HB.out)
          rw [hw2] at HD2 HR2 HB2
          have fz2 : w2.frozen? ⟨GQ, i * 3 + j, none⟩ = false := by rw [← hw2]; exact fz
          have cz2 : w2.cell? ⟨GQ, i * 3 + j, none⟩ = some (.int .i64 S) := by rw [← hw2]; exact cz
          have hz2 : GQ < w2.heap.size := HQ2.out.2.2
          clear hw2 c0 c1 fz cz hz HQ HO HD HR HB
          obtain ⟨ne_Q_O, ne_Q_D, ne_Q_R, ne_O_Q, ne_D_Q, ne_R_Q, le_Q, le_R⟩ := HNE.out
          go_wp2_with fail
          go_roundw
          case rel =>
            refine ⟨j + 1, by go_num, by omega, (HQ2.out.set (i * 3 + j) (by omega) X).congr (fun c hc => ?_), HO2.out.far ⟨GQ, _, none⟩ _ (by show GO ≠ GQ; exact ne_O_Q), HD2.out.far ⟨GQ, _, none⟩ _ (by show gD ≠ GQ; exact ne_D_Q), HR2.out.far ⟨GQ, _, none⟩ _ (by show GR ≠ GQ; exact ne_R_Q), Below.setCell HB2.out (by exact le_Q) _⟩
            (try dsimp only)
            by_cases e : c = i * 3 + j
            · rw [if_pos e, e]; unfold dnF; rw [if_pos (by omega), HMT.out]
            · rw [if_neg e]; unfold dnF
              by_cases e2 : c < i * 3 + j
              · rw [if_pos e2, if_pos (by omega)]
              · rw [if_neg e2, if_neg (by omega)]
          case measure =>
            show 3 - ((j : Int) + 1).toNat < 3 - ((j : Int)).toNat
            omega
        · have e3 : j = 3 := by omega
          subst e3
          rw [show ((3 : Nat) : Int) = 3 from rfl]
          go_wp2_with fail
          go_roundw
          case rel => exact ⟨i + 1, by go_num, by omega, HQ.out.congr (fun c hc => by rw [show (i + 1) * 3 = i * 3 + 3 from by omega]), HO.out, HD.out, HR.out, HB.out⟩
          case measure =>
            show 3 - ((i : Int) + 1).toNat < 3 - ((i : Int)).toNat
            omega
    · have e3 : i = 3 := by omega
      subst e3
      rw [show ((3 : Nat) : Int) = 3 from rfl]
      have HQ9 := Lib.hid (HQ.out.congr (f' := mtF f s) (fun c hc => by unfold dnF; rw [if_pos (by omega)])).to9
      obtain ⟨ne_Q_O, ne_Q_D, ne_Q_R, ne_O_Q, ne_D_Q, ne_R_Q, le_Q, le_R⟩ := HNE.out
      obtain ⟨P0, hP0⟩ : ∃ P, mtF f s = P := ⟨_, rfl⟩
      rw [hP0] at HQ9 HRES
      obtain ⟨⟨q0, q1, q2, q3, q4, q5, q6, q7, q8⟩, _, zQ⟩ := HQ9.out
      obtain ⟨_, ⟨f0, f1, f2, f3, f4, f5, f6, f7, f8⟩, zR⟩ := HR.out
      clear HO HD HQ hP0
      go_wp2_with fail
      refine bodyPost_ret (v := .agg #[.int .i64 (P0 0), .int .i64 (P0 1), .int .i64 (P0 2), .int .i64 (P0 3), .int .i64 (P0 4), .int .i64 (P0 5), .int .i64 (P0 6), .int .i64 (P0 7), .int .i64 (P0 8)]) (by simp (maxDischargeDepth := 8) [results, Try.results70, go_sem, *]) rfl ?_
      have hb := HB.out
      exact ⟨by rw [HRES.out]; rfl, by (repeat' (first | (with_reducible exact Below.refl _ _) | (with_reducible refine Below.alloc ?_ ?_ _) | (with_reducible refine Below.setCell ?_ ?_ _) | (with_reducible refine Below.drew ?_) | (with_reducible refine below_drewN ?_ _) | (with_reducible assumption) | (with_reducible refine below_after (by with_reducible assumption) ?_) | go_size))⟩
theorem l07Matrix_any (k : Nat) (a b c : Int) (w : World) (hk : k < 4) (ha : B0 a) (hb : B0 b) (hc : B0 c) : Calls Try.prog 70 #[.agg #[.int .i64 a, .int .i64 b, .int .i64 c], .int .i64 (k : Int)] w fun e w' => e = .returned (ag9 (mtF (ownF k) (od (rSub k a b c).1 (rSub k a b c).2.1 (rSub k a b c).2.2))) ∧ Below w.heap.size w w' := by
  have HLESS := fun w => l07Less_any k a b c w hk ha hb hc
  have HORD := fun w => l07Order_any (rSub k a b c).1 (rSub k a b c).2.1 (rSub k a b c).2.2 w
  have HLS : lt3 (od (rSub k a b c).1 (rSub k a b c).2.1 (rSub k a b c).2.2) := od_lt _ _ _
  match k, hk with
  | 0, _ => exact l07Mat_0 a b c _ _ _ _ _ w (Lib.hid HLS) (Lib.hid rfl) (Lib.hid HLESS) (Lib.hid HORD)
  | 1, _ => exact l07Mat_1 a b c _ _ _ _ _ w (Lib.hid HLS) (Lib.hid rfl) (Lib.hid HLESS) (Lib.hid HORD)
  | 2, _ => exact l07Mat_2 a b c _ _ _ _ _ w (Lib.hid HLS) (Lib.hid rfl) (Lib.hid HLESS) (Lib.hid HORD)
  | 3, _ => exact l07Mat_3 a b c _ _ _ _ _ w (Lib.hid HLS) (Lib.hid rfl) (Lib.hid HLESS) (Lib.hid HORD)
end Go.Proofs.Ytbgifgfegndlkaa
