/-
  Steps, runs, ends and the shortest rule in the model (own work).
-/
import Derived.Test.YtbgifgfegndlkaaTrW
namespace Go.Proofs.Ytbgifgfegndlkaa
open Go.ChangeShapes Go.WideShapes Go.ChangeAt Go.RowKit
set_option linter.unusedVariables false
set_option linter.unusedSimpArgs false
set_option maxRecDepth 100000

/-- The end of a run and its length, if it is at most f. -/
def endF (k : Nat) : Nat → T3 → Option (T3 × Nat)
  | 0, t => if enT k t = true then some (t, 0) else none
  | f + 1, t => if enT k t = true then some (t, 0) else (endF k f (nxT k t)).map (fun p => (p.1, p.2 + 1))
def lastT : List T3 → T3
  | [] => (0, 0, 0)
  | [t] => t
  | _ :: t :: l => lastT (t :: l)
theorem endF_end {k f : Nat} {t : T3} (h : enT k t = true) : endF k f t = some (t, 0) := by
  cases f with
  | zero => rw [endF, if_pos h]
  | succ f => rw [endF, if_pos h]
theorem endF_zero {k : Nat} {t : T3} (h : enT k t = false) : endF k 0 t = none := by
  rw [endF, if_neg (by rw [h]; decide)]
theorem endF_next {k f : Nat} {t : T3} (hf : f ≠ 0) (h : enT k t = false) : endF k f t = (endF k (f - 1) (nxT k t)).map (fun p => (p.1, p.2 + 1)) := by
  cases f with
  | zero => exact absurd rfl hf
  | succ f =>
    rw [endF, if_neg (by rw [h]; decide)]
    rfl
theorem endF_le {k : Nat} : ∀ (f : Nat) (t : T3) (p : T3 × Nat), endF k f t = some p → p.2 ≤ f
  | 0, t, p, h => by
    rw [endF] at h
    split at h
    · cases h; exact Nat.le_refl _
    · cases h
  | f + 1, t, p, h => by
    rw [endF] at h
    split at h
    · cases h; omega
    · cases h2 : endF k f (nxT k t) with
      | none => rw [h2] at h; cases h
      | some q =>
        rw [h2] at h
        simp at h
        have := endF_le f _ q h2
        rw [← h]
        simp
        omega
theorem runT_cons (k f : Nat) (t : T3) : ∃ l, runT k f t = t :: l := by
  cases f with
  | zero => exact ⟨[], rfl⟩
  | succ f =>
    rw [runT]
    split
    · exact ⟨[], rfl⟩
    · exact ⟨_, rfl⟩
/-- The list of a run tells its end. -/
theorem run_end (k : Nat) : ∀ (f : Nat) (t : T3), (match endF k f t with
    | some p => (runT k f t).length = p.2 + 1 ∧ lastT (runT k f t) = p.1 ∧ enT k p.1 = true
    | none => enT k (lastT (runT k f t)) = false)
  | 0, t => by
    rw [endF]
    cases h : enT k t
    · simp [runT, lastT, h]
    · simp [runT, lastT, h]
  | f + 1, t => by
    have ih := run_end k f (nxT k t)
    rw [endF, runT]
    cases h : enT k t
    · simp only [Bool.false_eq_true, if_false]
      obtain ⟨l, hl⟩ := runT_cons k f (nxT k t)
      rw [hl] at ih ⊢
      cases h2 : endF k f (nxT k t) with
      | none =>
        rw [h2] at ih
        simpa [lastT] using ih
      | some q =>
        rw [h2] at ih
        simp only [Option.map_some]
        refine ⟨by simpa using ih.1, ?_, ih.2.2⟩
        simpa [lastT] using ih.2.1
    · simp [lastT, h]
def eE (o : Option (T3 × Nat)) : T3 := match o with | some p => p.1 | none => (0, 0, 0)
def eN (o : Option (T3 × Nat)) : Int := match o with | some p => (p.2 : Int) | none => 0
def eB (o : Option (T3 × Nat)) : Bool := match o with | some _ => true | none => false
theorem nxT_sorted {k : Nat} (hk : k < 4) {a b c : Int} (hs : isSt a b c = true) (he : rEnd k b c = false) : isSt (stT k a b c).1 (stT k a b c).2.1 (stT k a b c).2.2 = true := by
  obtain ⟨u0, u1, u2, u3⟩ := sub_tri hk hs he
  exact srt_of u0 u1 u2 u3
theorem isSt_B {a b c : Int} (hs : isSt a b c = true) : B0 a ∧ B0 b ∧ B0 c := by
  obtain ⟨_, a1, a2, b0, b1, c0, c1⟩ := isSt_parts hs
  unfold B0
  omega
theorem scd_rcd (a b c r : Int) (n : Int) (hn : 0 ≤ n ∧ n ≤ 300) : scd a b c r = rcd a b c r n := by
  unfold scd rcd
  by_cases h : isSt a b c = true
  · rw [if_pos h, if_pos h]
    by_cases h2 : 0 ≤ r ∧ r ≤ 3
    · rw [if_pos h2, if_pos (by omega)]
    · rw [if_neg h2, if_neg (by omega)]
  · rw [if_neg h, if_neg h]
theorem scd_cases (a b c r : Int) : (scd a b c r = 0 ∧ isSt a b c = true ∧ ∃ k : Nat, r = (k : Int) ∧ k < 4) ∨ ((scd a b c r == 0) = false ∧ scd a b c r ≠ 0) := by
  rw [scd_rcd a b c r 0 (by omega)]
  rcases rcd_cases a b c r 0 with ⟨h0, hs, k, m, h1, hk, _⟩ | h
  · exact .inl ⟨h0, hs, k, h1, hk⟩
  · exact .inr h
theorem spec_IsTriple_any (a b c : Int) (w : World) : Calls Try.prog 16 #[.agg #[.int .i64 a, .int .i64 b, .int .i64 c]] w fun e w' => e = .returned (.bool (isTr a b c)) ∧ Below w.heap.size w w' := by
  have HI := Lib.hid (fun w => l07Is_any a b c w)
  generalize isTr a b c = z at *
  obtain ⟨GT, hG⟩ : ∃ G, w.heap.size = G := ⟨_, rfl⟩
  have HG := Lib.hid hG
  go_enter Try.func16, Try.ntmps16
  go_upto_region 1 with fail
  obtain ⟨w0, hw0⟩ : ∃ w0, w0 = (w.alloc (.cells #[.int .i64 a, .int .i64 b, .int .i64 c] 24)) := ⟨_, rfl⟩
  rw [← hw0]
  have HT : Hid (Bk3 w0 GT a b c) := by
    have h := (bk3_new w a b c 24).below (W' := (w.alloc (.cells #[.int .i64 a, .int .i64 b, .int .i64 c] 24))) (by (repeat' (first | (with_reducible exact Below.refl _ _) | (with_reducible refine Below.alloc ?_ ?_ _) | (with_reducible refine Below.setCell ?_ ?_ _) | (with_reducible refine Below.drew ?_) | (with_reducible refine below_drewN ?_ _) | (with_reducible assumption) | (with_reducible refine below_after (by with_reducible assumption) ?_) | go_size)))
    (try simp only [World.size_alloc] at h)
    rw [hG] at h
    rw [hw0]; exact h
  have HB : Hid (Below w.heap.size w w0) := by show Below w.heap.size w w0; rw [hw0]; (repeat' (first | (with_reducible exact Below.refl _ _) | (with_reducible refine Below.alloc ?_ ?_ _) | (with_reducible refine Below.setCell ?_ ?_ _) | (with_reducible refine Below.drew ?_) | (with_reducible refine below_drewN ?_ _) | (with_reducible assumption) | (with_reducible refine below_after (by with_reducible assumption) ?_) | go_size))
  clear hw0
  have le_T : w.heap.size ≤ GT := by omega
  obtain ⟨⟨qT0, qT1, qT2⟩, ⟨fT0, fT1, fT2⟩, zT⟩ := HT.out
  go_wp2_with fail
  go_at_call 54
  refine (HI.out _).mono ?_
  rintro e w1 ⟨rfl, hb⟩
  clear qT0 fT0 qT1 fT1 qT2 fT2 zT
  have HT := Lib.hid (HT.out.below hb)
  have HB := Lib.hid (below_after hb HB.out)
  clear hb
  obtain ⟨⟨qT0, qT1, qT2⟩, ⟨fT0, fT1, fT2⟩, zT⟩ := HT.out
  go_wp2_with fail
  refine bodyPost_ret (v := .bool z) (by simp (maxDischargeDepth := 8) [results, Try.results16, go_sem, *]) rfl ?_
  have hb := HB.out
  exact ⟨rfl, by (repeat' (first | (with_reducible exact Below.refl _ _) | (with_reducible refine Below.alloc ?_ ?_ _) | (with_reducible refine Below.setCell ?_ ?_ _) | (with_reducible refine Below.drew ?_) | (with_reducible refine below_drewN ?_ _) | (with_reducible assumption) | (with_reducible refine below_after (by with_reducible assumption) ?_) | go_size))⟩
theorem spec_SortTriple_any (a b c : Int) (w : World) : Calls Try.prog 19 #[.agg #[.int .i64 a, .int .i64 b, .int .i64 c]] w fun e w' => e = .returned (.tuple #[.agg #[.int .i64 ((stV a b c).1), .int .i64 ((stV a b c).2.1), .int .i64 ((stV a b c).2.2)], .int .i64 (stK a b c)]) ∧ Below w.heap.size w w' := by
  have HI := Lib.hid (fun w => l07Is_any a b c w)
  unfold stV stK
  cases h : isTr a b c
  · rw [h] at HI
    simp only [Bool.false_eq_true, if_false]
    clear h
    obtain ⟨GT, hG⟩ : ∃ G, w.heap.size = G := ⟨_, rfl⟩
    have HG := Lib.hid hG
    go_enter Try.func19, Try.ntmps19
    go_upto_region 1 with fail
    obtain ⟨w0, hw0⟩ : ∃ w0, w0 = ((w.alloc (.cells #[.int .i64 a, .int .i64 b, .int .i64 c] 24)).alloc (.cells #[.int .i64 0, .int .i64 0, .int .i64 0] 24)) := ⟨_, rfl⟩
    rw [← hw0]
    have HT : Hid (Bk3 w0 GT a b c) := by
      have h := (bk3_new w a b c 24).below (W' := ((w.alloc (.cells #[.int .i64 a, .int .i64 b, .int .i64 c] 24)).alloc (.cells #[.int .i64 0, .int .i64 0, .int .i64 0] 24))) (by (repeat' (first | (with_reducible exact Below.refl _ _) | (with_reducible refine Below.alloc ?_ ?_ _) | (with_reducible refine Below.setCell ?_ ?_ _) | (with_reducible refine Below.drew ?_) | (with_reducible refine below_drewN ?_ _) | (with_reducible assumption) | (with_reducible refine below_after (by with_reducible assumption) ?_) | go_size)))
      (try simp only [World.size_alloc] at h)
      rw [hG] at h
      rw [hw0]; exact h
    have HR : Hid (Bk3 w0 (GT + 1) 0 0 0) := by
      have h := (bk3_new (w.alloc (.cells #[.int .i64 a, .int .i64 b, .int .i64 c] 24)) 0 0 0 24).below (W' := ((w.alloc (.cells #[.int .i64 a, .int .i64 b, .int .i64 c] 24)).alloc (.cells #[.int .i64 0, .int .i64 0, .int .i64 0] 24))) (by (repeat' (first | (with_reducible exact Below.refl _ _) | (with_reducible refine Below.alloc ?_ ?_ _) | (with_reducible refine Below.setCell ?_ ?_ _) | (with_reducible refine Below.drew ?_) | (with_reducible refine below_drewN ?_ _) | (with_reducible assumption) | (with_reducible refine below_after (by with_reducible assumption) ?_) | go_size)))
      (try simp only [World.size_alloc] at h)
      rw [hG] at h
      rw [hw0]; exact h
    have HB : Hid (Below w.heap.size w w0) := by show Below w.heap.size w w0; rw [hw0]; (repeat' (first | (with_reducible exact Below.refl _ _) | (with_reducible refine Below.alloc ?_ ?_ _) | (with_reducible refine Below.setCell ?_ ?_ _) | (with_reducible refine Below.drew ?_) | (with_reducible refine below_drewN ?_ _) | (with_reducible assumption) | (with_reducible refine below_after (by with_reducible assumption) ?_) | go_size))
    clear hw0
    obtain ⟨GR, hGR⟩ : ∃ g, GT + 1 = g := ⟨_, rfl⟩
    rw [hGR] at HR ⊢
    have le_T : w.heap.size ≤ GT := by omega
    have le_R : w.heap.size ≤ GR := by omega
    have ne_R_T : GR ≠ GT := by omega
    have ne_T_R : GT ≠ GR := by omega
    clear hGR
    obtain ⟨⟨qT0, qT1, qT2⟩, ⟨fT0, fT1, fT2⟩, zT⟩ := HT.out
    obtain ⟨⟨qR0, qR1, qR2⟩, ⟨fR0, fR1, fR2⟩, zR⟩ := HR.out
    go_wp2_with fail
    go_at_call 54
    refine (HI.out _).mono ?_
    rintro e w1 ⟨rfl, hb⟩
    clear qT0 fT0 qT1 fT1 qT2 fT2 zT qR0 fR0 qR1 fR1 qR2 fR2 zR
    have HT := Lib.hid (HT.out.below hb)
    have HR := Lib.hid (HR.out.below hb)
    have HB := Lib.hid (below_after hb HB.out)
    clear hb
    obtain ⟨⟨qT0, qT1, qT2⟩, ⟨fT0, fT1, fT2⟩, zT⟩ := HT.out
    obtain ⟨⟨qR0, qR1, qR2⟩, ⟨fR0, fR1, fR2⟩, zR⟩ := HR.out
    go_wp2_with fail
    refine bodyPost_ret (v := .tuple #[.agg #[.int .i64 0, .int .i64 0, .int .i64 0], .int .i64 1]) (by simp (maxDischargeDepth := 8) [results, Try.results19, go_sem, *]) rfl ?_
    have hb := HB.out
    exact ⟨rfl, by (repeat' (first | (with_reducible exact Below.refl _ _) | (with_reducible refine Below.alloc ?_ ?_ _) | (with_reducible refine Below.setCell ?_ ?_ _) | (with_reducible refine Below.drew ?_) | (with_reducible refine below_drewN ?_ _) | (with_reducible assumption) | (with_reducible refine below_after (by with_reducible assumption) ?_) | go_size))⟩
  · rw [h] at HI
    simp only [if_true]
    have HS := Lib.hid (fun w => l07Sort_any a b c w)
    obtain ⟨⟨X, Y, Z⟩, hS⟩ : ∃ s, st3 a b c = s := ⟨_, rfl⟩
    rw [hS] at HS ⊢
    simp only at HS ⊢
    clear h hS
    obtain ⟨GT, hG⟩ : ∃ G, w.heap.size = G := ⟨_, rfl⟩
    have HG := Lib.hid hG
    go_enter Try.func19, Try.ntmps19
    go_upto_region 1 with fail
    obtain ⟨w0, hw0⟩ : ∃ w0, w0 = ((w.alloc (.cells #[.int .i64 a, .int .i64 b, .int .i64 c] 24)).alloc (.cells #[.int .i64 0, .int .i64 0, .int .i64 0] 24)) := ⟨_, rfl⟩
    rw [← hw0]
    have HT : Hid (Bk3 w0 GT a b c) := by
      have h := (bk3_new w a b c 24).below (W' := ((w.alloc (.cells #[.int .i64 a, .int .i64 b, .int .i64 c] 24)).alloc (.cells #[.int .i64 0, .int .i64 0, .int .i64 0] 24))) (by (repeat' (first | (with_reducible exact Below.refl _ _) | (with_reducible refine Below.alloc ?_ ?_ _) | (with_reducible refine Below.setCell ?_ ?_ _) | (with_reducible refine Below.drew ?_) | (with_reducible refine below_drewN ?_ _) | (with_reducible assumption) | (with_reducible refine below_after (by with_reducible assumption) ?_) | go_size)))
      (try simp only [World.size_alloc] at h)
      rw [hG] at h
      rw [hw0]; exact h
    have HR : Hid (Bk3 w0 (GT + 1) 0 0 0) := by
      have h := (bk3_new (w.alloc (.cells #[.int .i64 a, .int .i64 b, .int .i64 c] 24)) 0 0 0 24).below (W' := ((w.alloc (.cells #[.int .i64 a, .int .i64 b, .int .i64 c] 24)).alloc (.cells #[.int .i64 0, .int .i64 0, .int .i64 0] 24))) (by (repeat' (first | (with_reducible exact Below.refl _ _) | (with_reducible refine Below.alloc ?_ ?_ _) | (with_reducible refine Below.setCell ?_ ?_ _) | (with_reducible refine Below.drew ?_) | (with_reducible refine below_drewN ?_ _) | (with_reducible assumption) | (with_reducible refine below_after (by with_reducible assumption) ?_) | go_size)))
      (try simp only [World.size_alloc] at h)
      rw [hG] at h
      rw [hw0]; exact h
    have HB : Hid (Below w.heap.size w w0) := by show Below w.heap.size w w0; rw [hw0]; (repeat' (first | (with_reducible exact Below.refl _ _) | (with_reducible refine Below.alloc ?_ ?_ _) | (with_reducible refine Below.setCell ?_ ?_ _) | (with_reducible refine Below.drew ?_) | (with_reducible refine below_drewN ?_ _) | (with_reducible assumption) | (with_reducible refine below_after (by with_reducible assumption) ?_) | go_size))
    clear hw0
    obtain ⟨GR, hGR⟩ : ∃ g, GT + 1 = g := ⟨_, rfl⟩
    rw [hGR] at HR ⊢
    have le_T : w.heap.size ≤ GT := by omega
    have le_R : w.heap.size ≤ GR := by omega
    have ne_R_T : GR ≠ GT := by omega
    have ne_T_R : GT ≠ GR := by omega
    clear hGR
    obtain ⟨⟨qT0, qT1, qT2⟩, ⟨fT0, fT1, fT2⟩, zT⟩ := HT.out
    obtain ⟨⟨qR0, qR1, qR2⟩, ⟨fR0, fR1, fR2⟩, zR⟩ := HR.out
    go_wp2_with fail
    go_at_call 54
    refine (HI.out _).mono ?_
    rintro e w1 ⟨rfl, hb⟩
    clear qT0 fT0 qT1 fT1 qT2 fT2 zT qR0 fR0 qR1 fR1 qR2 fR2 zR
    have HT := Lib.hid (HT.out.below hb)
    have HR := Lib.hid (HR.out.below hb)
    have HB := Lib.hid (below_after hb HB.out)
    clear hb
    obtain ⟨⟨qT0, qT1, qT2⟩, ⟨fT0, fT1, fT2⟩, zT⟩ := HT.out
    obtain ⟨⟨qR0, qR1, qR2⟩, ⟨fR0, fR1, fR2⟩, zR⟩ := HR.out
    go_wp2_with fail
    go_at_call 56
    refine (HS.out _).mono ?_
    rintro e w2 ⟨rfl, hb⟩
    clear qT0 fT0 qT1 fT1 qT2 fT2 zT qR0 fR0 qR1 fR1 qR2 fR2 zR
    have HT := Lib.hid (HT.out.below hb)
    have HR := Lib.hid (HR.out.below hb)
    have HB := Lib.hid (below_after hb HB.out)
    clear hb
    obtain ⟨⟨qT0, qT1, qT2⟩, ⟨fT0, fT1, fT2⟩, zT⟩ := HT.out
    obtain ⟨⟨qR0, qR1, qR2⟩, ⟨fR0, fR1, fR2⟩, zR⟩ := HR.out
    go_wp2_with fail
    refine bodyPost_ret (v := .tuple #[.agg #[.int .i64 X, .int .i64 Y, .int .i64 Z], .int .i64 0]) (by simp (maxDischargeDepth := 8) [results, Try.results19, go_sem, *]) rfl ?_
    have hb := HB.out
    exact ⟨rfl, by (repeat' (first | (with_reducible exact Below.refl _ _) | (with_reducible refine Below.alloc ?_ ?_ _) | (with_reducible refine Below.setCell ?_ ?_ _) | (with_reducible refine Below.drew ?_) | (with_reducible refine below_drewN ?_ _) | (with_reducible assumption) | (with_reducible refine below_after (by with_reducible assumption) ?_) | go_size))⟩
theorem spec_StepTriple_any (a b c r : Int) (w : World) : Calls Try.prog 22 #[.agg #[.int .i64 a, .int .i64 b, .int .i64 c], .int .i64 r] w fun e w' => e = .returned (.tuple #[.agg #[.int .i64 ((stpV a b c r).1), .int .i64 ((stpV a b c r).2.1), .int .i64 ((stpV a b c r).2.2)], .int .i64 (rcd a b c r 1)]) ∧ Below w.heap.size w w' := by
  have HC := Lib.hid (fun w => l07Code_any a b c r w)
  unfold stpV
  rw [← scd_rcd a b c r 1 (by omega)]
  rcases scd_cases a b c r with ⟨h0, hs, k, rfl, hk⟩ | ⟨h0, h1⟩
  · rw [if_pos h0, h0, Int.toNat_natCast]
    rw [h0] at HC
    obtain ⟨b0, b1, b2⟩ := isSt_B hs
    have HS := Lib.hid (fun w => l07Step_any k a b c w hk b0 b1 b2)
    obtain ⟨⟨X, Y, Z⟩, hS⟩ : ∃ s, stT k a b c = s := ⟨_, rfl⟩
    rw [hS] at HS ⊢
    simp only at HS ⊢
    clear h0 hS hs hk b0 b1 b2
    obtain ⟨GT, hG⟩ : ∃ G, w.heap.size = G := ⟨_, rfl⟩
    have HG := Lib.hid hG
    go_enter Try.func22, Try.ntmps22
    go_upto_region 1 with fail
    obtain ⟨w0, hw0⟩ : ∃ w0, w0 = ((w.alloc (.cells #[.int .i64 a, .int .i64 b, .int .i64 c] 24)).alloc (.cells #[.int .i64 0, .int .i64 0, .int .i64 0] 24)) := ⟨_, rfl⟩
    rw [← hw0]
    have HT : Hid (Bk3 w0 GT a b c) := by
      have h := (bk3_new w a b c 24).below (W' := ((w.alloc (.cells #[.int .i64 a, .int .i64 b, .int .i64 c] 24)).alloc (.cells #[.int .i64 0, .int .i64 0, .int .i64 0] 24))) (by (repeat' (first | (with_reducible exact Below.refl _ _) | (with_reducible refine Below.alloc ?_ ?_ _) | (with_reducible refine Below.setCell ?_ ?_ _) | (with_reducible refine Below.drew ?_) | (with_reducible refine below_drewN ?_ _) | (with_reducible assumption) | (with_reducible refine below_after (by with_reducible assumption) ?_) | go_size)))
      (try simp only [World.size_alloc] at h)
      rw [hG] at h
      rw [hw0]; exact h
    have HR : Hid (Bk3 w0 (GT + 1) 0 0 0) := by
      have h := (bk3_new (w.alloc (.cells #[.int .i64 a, .int .i64 b, .int .i64 c] 24)) 0 0 0 24).below (W' := ((w.alloc (.cells #[.int .i64 a, .int .i64 b, .int .i64 c] 24)).alloc (.cells #[.int .i64 0, .int .i64 0, .int .i64 0] 24))) (by (repeat' (first | (with_reducible exact Below.refl _ _) | (with_reducible refine Below.alloc ?_ ?_ _) | (with_reducible refine Below.setCell ?_ ?_ _) | (with_reducible refine Below.drew ?_) | (with_reducible refine below_drewN ?_ _) | (with_reducible assumption) | (with_reducible refine below_after (by with_reducible assumption) ?_) | go_size)))
      (try simp only [World.size_alloc] at h)
      rw [hG] at h
      rw [hw0]; exact h
    have HB : Hid (Below w.heap.size w w0) := by show Below w.heap.size w w0; rw [hw0]; (repeat' (first | (with_reducible exact Below.refl _ _) | (with_reducible refine Below.alloc ?_ ?_ _) | (with_reducible refine Below.setCell ?_ ?_ _) | (with_reducible refine Below.drew ?_) | (with_reducible refine below_drewN ?_ _) | (with_reducible assumption) | (with_reducible refine below_after (by with_reducible assumption) ?_) | go_size))
    clear hw0
    obtain ⟨GR, hGR⟩ : ∃ g, GT + 1 = g := ⟨_, rfl⟩
    rw [hGR] at HR ⊢
    have le_T : w.heap.size ≤ GT := by omega
    have le_R : w.heap.size ≤ GR := by omega
    have ne_R_T : GR ≠ GT := by omega
    have ne_T_R : GT ≠ GR := by omega
    clear hGR
    obtain ⟨⟨qT0, qT1, qT2⟩, ⟨fT0, fT1, fT2⟩, zT⟩ := HT.out
    obtain ⟨⟨qR0, qR1, qR2⟩, ⟨fR0, fR1, fR2⟩, zR⟩ := HR.out
    go_wp2_with fail
    go_at_call 59
    refine (HC.out _).mono ?_
    rintro e w1 ⟨rfl, hb⟩
    clear qT0 fT0 qT1 fT1 qT2 fT2 zT qR0 fR0 qR1 fR1 qR2 fR2 zR
    have HT := Lib.hid (HT.out.below hb)
    have HR := Lib.hid (HR.out.below hb)
    have HB := Lib.hid (below_after hb HB.out)
    clear hb
    obtain ⟨⟨qT0, qT1, qT2⟩, ⟨fT0, fT1, fT2⟩, zT⟩ := HT.out
    obtain ⟨⟨qR0, qR1, qR2⟩, ⟨fR0, fR1, fR2⟩, zR⟩ := HR.out
    go_wp2_with fail
    go_at_call 60
    refine (HS.out _).mono ?_
    rintro e w2 ⟨rfl, hb⟩
    clear qT0 fT0 qT1 fT1 qT2 fT2 zT qR0 fR0 qR1 fR1 qR2 fR2 zR
    have HT := Lib.hid (HT.out.below hb)
    have HR := Lib.hid (HR.out.below hb)
    have HB := Lib.hid (below_after hb HB.out)
    clear hb
    obtain ⟨⟨qT0, qT1, qT2⟩, ⟨fT0, fT1, fT2⟩, zT⟩ := HT.out
    obtain ⟨⟨qR0, qR1, qR2⟩, ⟨fR0, fR1, fR2⟩, zR⟩ := HR.out
    go_wp2_with fail
    refine bodyPost_ret (v := .tuple #[.agg #[.int .i64 X, .int .i64 Y, .int .i64 Z], .int .i64 0]) (by simp (maxDischargeDepth := 8) [results, Try.results22, go_sem, *]) rfl ?_
    have hb := HB.out
    exact ⟨rfl, by (repeat' (first | (with_reducible exact Below.refl _ _) | (with_reducible refine Below.alloc ?_ ?_ _) | (with_reducible refine Below.setCell ?_ ?_ _) | (with_reducible refine Below.drew ?_) | (with_reducible refine below_drewN ?_ _) | (with_reducible assumption) | (with_reducible refine below_after (by with_reducible assumption) ?_) | go_size))⟩
  · rw [if_neg h1]
    obtain ⟨K, hK⟩ : ∃ K, scd a b c r = K := ⟨_, rfl⟩
    rw [hK] at HC h0 h1 ⊢
    clear hK h1
    obtain ⟨GT, hG⟩ : ∃ G, w.heap.size = G := ⟨_, rfl⟩
    have HG := Lib.hid hG
    go_enter Try.func22, Try.ntmps22
    go_upto_region 1 with fail
    obtain ⟨w0, hw0⟩ : ∃ w0, w0 = ((w.alloc (.cells #[.int .i64 a, .int .i64 b, .int .i64 c] 24)).alloc (.cells #[.int .i64 0, .int .i64 0, .int .i64 0] 24)) := ⟨_, rfl⟩
    rw [← hw0]
    have HT : Hid (Bk3 w0 GT a b c) := by
      have h := (bk3_new w a b c 24).below (W' := ((w.alloc (.cells #[.int .i64 a, .int .i64 b, .int .i64 c] 24)).alloc (.cells #[.int .i64 0, .int .i64 0, .int .i64 0] 24))) (by (repeat' (first | (with_reducible exact Below.refl _ _) | (with_reducible refine Below.alloc ?_ ?_ _) | (with_reducible refine Below.setCell ?_ ?_ _) | (with_reducible refine Below.drew ?_) | (with_reducible refine below_drewN ?_ _) | (with_reducible assumption) | (with_reducible refine below_after (by with_reducible assumption) ?_) | go_size)))
      (try simp only [World.size_alloc] at h)
      rw [hG] at h
      rw [hw0]; exact h
    have HR : Hid (Bk3 w0 (GT + 1) 0 0 0) := by
      have h := (bk3_new (w.alloc (.cells #[.int .i64 a, .int .i64 b, .int .i64 c] 24)) 0 0 0 24).below (W' := ((w.alloc (.cells #[.int .i64 a, .int .i64 b, .int .i64 c] 24)).alloc (.cells #[.int .i64 0, .int .i64 0, .int .i64 0] 24))) (by (repeat' (first | (with_reducible exact Below.refl _ _) | (with_reducible refine Below.alloc ?_ ?_ _) | (with_reducible refine Below.setCell ?_ ?_ _) | (with_reducible refine Below.drew ?_) | (with_reducible refine below_drewN ?_ _) | (with_reducible assumption) | (with_reducible refine below_after (by with_reducible assumption) ?_) | go_size)))
      (try simp only [World.size_alloc] at h)
      rw [hG] at h
      rw [hw0]; exact h
    have HB : Hid (Below w.heap.size w w0) := by show Below w.heap.size w w0; rw [hw0]; (repeat' (first | (with_reducible exact Below.refl _ _) | (with_reducible refine Below.alloc ?_ ?_ _) | (with_reducible refine Below.setCell ?_ ?_ _) | (with_reducible refine Below.drew ?_) | (with_reducible refine below_drewN ?_ _) | (with_reducible assumption) | (with_reducible refine below_after (by with_reducible assumption) ?_) | go_size))
    clear hw0
    obtain ⟨GR, hGR⟩ : ∃ g, GT + 1 = g := ⟨_, rfl⟩
    rw [hGR] at HR ⊢
    have le_T : w.heap.size ≤ GT := by omega
    have le_R : w.heap.size ≤ GR := by omega
    have ne_R_T : GR ≠ GT := by omega
    have ne_T_R : GT ≠ GR := by omega
    clear hGR
    obtain ⟨⟨qT0, qT1, qT2⟩, ⟨fT0, fT1, fT2⟩, zT⟩ := HT.out
    obtain ⟨⟨qR0, qR1, qR2⟩, ⟨fR0, fR1, fR2⟩, zR⟩ := HR.out
    go_wp2_with fail
    go_at_call 59
    refine (HC.out _).mono ?_
    rintro e w1 ⟨rfl, hb⟩
    clear qT0 fT0 qT1 fT1 qT2 fT2 zT qR0 fR0 qR1 fR1 qR2 fR2 zR
    have HT := Lib.hid (HT.out.below hb)
    have HR := Lib.hid (HR.out.below hb)
    have HB := Lib.hid (below_after hb HB.out)
    clear hb
    obtain ⟨⟨qT0, qT1, qT2⟩, ⟨fT0, fT1, fT2⟩, zT⟩ := HT.out
    obtain ⟨⟨qR0, qR1, qR2⟩, ⟨fR0, fR1, fR2⟩, zR⟩ := HR.out
    go_wp2_with fail
    refine bodyPost_ret (v := .tuple #[.agg #[.int .i64 0, .int .i64 0, .int .i64 0], .int .i64 K]) (by simp (maxDischargeDepth := 8) [results, Try.results22, go_sem, *]) rfl ?_
    have hb := HB.out
    exact ⟨rfl, by (repeat' (first | (with_reducible exact Below.refl _ _) | (with_reducible refine Below.alloc ?_ ?_ _) | (with_reducible refine Below.setCell ?_ ?_ _) | (with_reducible refine Below.drew ?_) | (with_reducible refine below_drewN ?_ _) | (with_reducible assumption) | (with_reducible refine below_after (by with_reducible assumption) ?_) | go_size))⟩
theorem spec_HasEnded_any (a b c r : Int) (w : World) : Calls Try.prog 24 #[.agg #[.int .i64 a, .int .i64 b, .int .i64 c], .int .i64 r] w fun e w' => e = .returned (.tuple #[.bool (heV a b c r), .int .i64 (rcd a b c r 0)]) ∧ Below w.heap.size w w' := by
  have HC := Lib.hid (fun w => l07Code_any a b c r w)
  unfold heV
  rw [← scd_rcd a b c r 0 (by omega)]
  rcases scd_cases a b c r with ⟨h0, hs, k, rfl, hk⟩ | ⟨h0, h1⟩
  · rw [if_pos h0, h0, Int.toNat_natCast]
    rw [h0] at HC
    have HE := Lib.hid (fun w => l07Ended_any k a b c w hk)
    obtain ⟨E, hE⟩ : ∃ E, rEnd k b c = E := ⟨_, rfl⟩
    rw [hE] at HE ⊢
    clear h0 hE hs hk
    obtain ⟨GT, hG⟩ : ∃ G, w.heap.size = G := ⟨_, rfl⟩
    have HG := Lib.hid hG
    go_enter Try.func24, Try.ntmps24
    go_upto_region 1 with fail
    obtain ⟨w0, hw0⟩ : ∃ w0, w0 = (w.alloc (.cells #[.int .i64 a, .int .i64 b, .int .i64 c] 24)) := ⟨_, rfl⟩
    rw [← hw0]
    have HT : Hid (Bk3 w0 GT a b c) := by
      have h := (bk3_new w a b c 24).below (W' := (w.alloc (.cells #[.int .i64 a, .int .i64 b, .int .i64 c] 24))) (by (repeat' (first | (with_reducible exact Below.refl _ _) | (with_reducible refine Below.alloc ?_ ?_ _) | (with_reducible refine Below.setCell ?_ ?_ _) | (with_reducible refine Below.drew ?_) | (with_reducible refine below_drewN ?_ _) | (with_reducible assumption) | (with_reducible refine below_after (by with_reducible assumption) ?_) | go_size)))
      (try simp only [World.size_alloc] at h)
      rw [hG] at h
      rw [hw0]; exact h
    have HB : Hid (Below w.heap.size w w0) := by show Below w.heap.size w w0; rw [hw0]; (repeat' (first | (with_reducible exact Below.refl _ _) | (with_reducible refine Below.alloc ?_ ?_ _) | (with_reducible refine Below.setCell ?_ ?_ _) | (with_reducible refine Below.drew ?_) | (with_reducible refine below_drewN ?_ _) | (with_reducible assumption) | (with_reducible refine below_after (by with_reducible assumption) ?_) | go_size))
    clear hw0
    have le_T : w.heap.size ≤ GT := by omega
    obtain ⟨⟨qT0, qT1, qT2⟩, ⟨fT0, fT1, fT2⟩, zT⟩ := HT.out
    go_wp2_with fail
    go_at_call 59
    refine (HC.out _).mono ?_
    rintro e w1 ⟨rfl, hb⟩
    clear qT0 fT0 qT1 fT1 qT2 fT2 zT
    have HT := Lib.hid (HT.out.below hb)
    have HB := Lib.hid (below_after hb HB.out)
    clear hb
    obtain ⟨⟨qT0, qT1, qT2⟩, ⟨fT0, fT1, fT2⟩, zT⟩ := HT.out
    go_wp2_with fail
    go_at_call 64
    refine (HE.out _).mono ?_
    rintro e w2 ⟨rfl, hb⟩
    clear qT0 fT0 qT1 fT1 qT2 fT2 zT
    have HT := Lib.hid (HT.out.below hb)
    have HB := Lib.hid (below_after hb HB.out)
    clear hb
    obtain ⟨⟨qT0, qT1, qT2⟩, ⟨fT0, fT1, fT2⟩, zT⟩ := HT.out
    go_wp2_with fail
    refine bodyPost_ret (v := .tuple #[.bool E, .int .i64 0]) (by simp (maxDischargeDepth := 8) [results, Try.results24, go_sem, *]) rfl ?_
    have hb := HB.out
    exact ⟨rfl, by (repeat' (first | (with_reducible exact Below.refl _ _) | (with_reducible refine Below.alloc ?_ ?_ _) | (with_reducible refine Below.setCell ?_ ?_ _) | (with_reducible refine Below.drew ?_) | (with_reducible refine below_drewN ?_ _) | (with_reducible assumption) | (with_reducible refine below_after (by with_reducible assumption) ?_) | go_size))⟩
  · rw [if_neg h1]
    obtain ⟨K, hK⟩ : ∃ K, scd a b c r = K := ⟨_, rfl⟩
    rw [hK] at HC h0 h1 ⊢
    clear hK h1
    obtain ⟨GT, hG⟩ : ∃ G, w.heap.size = G := ⟨_, rfl⟩
    have HG := Lib.hid hG
    go_enter Try.func24, Try.ntmps24
    go_upto_region 1 with fail
    obtain ⟨w0, hw0⟩ : ∃ w0, w0 = (w.alloc (.cells #[.int .i64 a, .int .i64 b, .int .i64 c] 24)) := ⟨_, rfl⟩
    rw [← hw0]
    have HT : Hid (Bk3 w0 GT a b c) := by
      have h := (bk3_new w a b c 24).below (W' := (w.alloc (.cells #[.int .i64 a, .int .i64 b, .int .i64 c] 24))) (by (repeat' (first | (with_reducible exact Below.refl _ _) | (with_reducible refine Below.alloc ?_ ?_ _) | (with_reducible refine Below.setCell ?_ ?_ _) | (with_reducible refine Below.drew ?_) | (with_reducible refine below_drewN ?_ _) | (with_reducible assumption) | (with_reducible refine below_after (by with_reducible assumption) ?_) | go_size)))
      (try simp only [World.size_alloc] at h)
      rw [hG] at h
      rw [hw0]; exact h
    have HB : Hid (Below w.heap.size w w0) := by show Below w.heap.size w w0; rw [hw0]; (repeat' (first | (with_reducible exact Below.refl _ _) | (with_reducible refine Below.alloc ?_ ?_ _) | (with_reducible refine Below.setCell ?_ ?_ _) | (with_reducible refine Below.drew ?_) | (with_reducible refine below_drewN ?_ _) | (with_reducible assumption) | (with_reducible refine below_after (by with_reducible assumption) ?_) | go_size))
    clear hw0
    have le_T : w.heap.size ≤ GT := by omega
    obtain ⟨⟨qT0, qT1, qT2⟩, ⟨fT0, fT1, fT2⟩, zT⟩ := HT.out
    go_wp2_with fail
    go_at_call 59
    refine (HC.out _).mono ?_
    rintro e w1 ⟨rfl, hb⟩
    clear qT0 fT0 qT1 fT1 qT2 fT2 zT
    have HT := Lib.hid (HT.out.below hb)
    have HB := Lib.hid (below_after hb HB.out)
    clear hb
    obtain ⟨⟨qT0, qT1, qT2⟩, ⟨fT0, fT1, fT2⟩, zT⟩ := HT.out
    go_wp2_with fail
    refine bodyPost_ret (v := .tuple #[.bool false, .int .i64 K]) (by simp (maxDischargeDepth := 8) [results, Try.results24, go_sem, *]) rfl ?_
    have hb := HB.out
    exact ⟨rfl, by (repeat' (first | (with_reducible exact Below.refl _ _) | (with_reducible refine Below.alloc ?_ ?_ _) | (with_reducible refine Below.setCell ?_ ?_ _) | (with_reducible refine Below.drew ?_) | (with_reducible refine below_drewN ?_ _) | (with_reducible assumption) | (with_reducible refine below_after (by with_reducible assumption) ?_) | go_size))⟩
set_option maxHeartbeats 3200000 in
theorem l07End_ok (k : Nat) (hk : k < 4) (a b c : Int) (hs : isSt a b c = true) (Oo : Option (T3 × Nat)) (ho : endF k 300 (a, b, c) = Oo) (w : World) : Calls Try.prog 67 #[.agg #[.int .i64 a, .int .i64 b, .int .i64 c], .int .i64 (k : Int)] w fun e w' => e = .returned (.tuple #[.agg #[.int .i64 ((eE Oo).1), .int .i64 ((eE Oo).2.1), .int .i64 ((eE Oo).2.2)], .int .i64 (eN Oo), .bool (eB Oo)]) ∧ Below w.heap.size w w' := by
  have HK := Lib.hid hk
  have HS0 := Lib.hid hs
  have HO0 : Hid ((endF k (300 - 0) (a, b, c)).map (fun p => (p.1, p.2 + 0)) = Oo) := by
    show _ = _
    rw [Nat.sub_zero, ho]
    cases Oo <;> rfl
  have HL := Lib.hid ho
  clear hk hs ho
  obtain ⟨GT, hG⟩ : ∃ G, w.heap.size = G := ⟨_, rfl⟩
  have HG := Lib.hid hG
  go_enter Try.func67, Try.ntmps67
  go_upto_region 1 with fail
  obtain ⟨w0, hw0⟩ : ∃ w0, w0 = ((w.alloc (.cells #[.int .i64 a, .int .i64 b, .int .i64 c] 24)).alloc (.cells #[.int .i64 0, .int .i64 0, .int .i64 0] 24)) := ⟨_, rfl⟩
  rw [← hw0]
  have HT : Hid (Bk3 w0 GT a b c) := by
    have h := (bk3_new w a b c 24).below (W' := ((w.alloc (.cells #[.int .i64 a, .int .i64 b, .int .i64 c] 24)).alloc (.cells #[.int .i64 0, .int .i64 0, .int .i64 0] 24))) (by (repeat' (first | (with_reducible exact Below.refl _ _) | (with_reducible refine Below.alloc ?_ ?_ _) | (with_reducible refine Below.setCell ?_ ?_ _) | (with_reducible refine Below.drew ?_) | (with_reducible refine below_drewN ?_ _) | (with_reducible assumption) | (with_reducible refine below_after (by with_reducible assumption) ?_) | go_size)))
    (try simp only [World.size_alloc] at h)
    rw [hG] at h
    rw [hw0]; exact h
  have HR : Hid (Bk3 w0 (GT + 1) 0 0 0) := by
    have h := (bk3_new (w.alloc (.cells #[.int .i64 a, .int .i64 b, .int .i64 c] 24)) 0 0 0 24).below (W' := ((w.alloc (.cells #[.int .i64 a, .int .i64 b, .int .i64 c] 24)).alloc (.cells #[.int .i64 0, .int .i64 0, .int .i64 0] 24))) (by (repeat' (first | (with_reducible exact Below.refl _ _) | (with_reducible refine Below.alloc ?_ ?_ _) | (with_reducible refine Below.setCell ?_ ?_ _) | (with_reducible refine Below.drew ?_) | (with_reducible refine below_drewN ?_ _) | (with_reducible assumption) | (with_reducible refine below_after (by with_reducible assumption) ?_) | go_size)))
    (try simp only [World.size_alloc] at h)
    rw [hG] at h
    rw [hw0]; exact h
  have HB : Hid (Below w.heap.size w w0) := by show Below w.heap.size w w0; rw [hw0]; (repeat' (first | (with_reducible exact Below.refl _ _) | (with_reducible refine Below.alloc ?_ ?_ _) | (with_reducible refine Below.setCell ?_ ?_ _) | (with_reducible refine Below.drew ?_) | (with_reducible refine below_drewN ?_ _) | (with_reducible assumption) | (with_reducible refine below_after (by with_reducible assumption) ?_) | go_size))
  clear hw0
  obtain ⟨GR, hGR⟩ : ∃ g, GT + 1 = g := ⟨_, rfl⟩
  rw [hGR] at HR ⊢
  have le_T : w.heap.size ≤ GT := by omega
  have le_R : w.heap.size ≤ GR := by omega
  have ne_R_T : GR ≠ GT := by omega
  have ne_T_R : GT ≠ GR := by omega
  clear hGR
  obtain ⟨⟨qT0, qT1, qT2⟩, ⟨fT0, fT1, fT2⟩, zT⟩ := HT.out
  obtain ⟨⟨qR0, qR1, qR2⟩, ⟨fR0, fR1, fR2⟩, zR⟩ := HR.out
  go_wp2_with fail
  clear qT0 fT0 qT1 fT1 qT2 fT2 zT qR0 fR0 qR1 fR1 qR2 fR2 zR
  have HNE := Lib.hid (And.intro ne_T_R (And.intro ne_R_T (And.intro le_T le_R)))
  clear HL
  go_loopw [7] (fun y wr => ∃ (i : Nat) (a b c : Int), y = .int .i64 (i : Int) ∧ i ≤ 300 ∧ isSt a b c = true ∧ (endF k (300 - i) (a, b, c)).map (fun p => (p.1, p.2 + i)) = Oo ∧ Bk3 wr GT a b c ∧ Bk3 wr GR 0 0 0 ∧ Below w.heap.size w wr) (fun y _ => 301 - (intOf y).toNat)
  case atStart => exact ⟨0, a, b, c, rfl, by omega, HS0.out, HO0.out, HT.out, HR.out, HB.out⟩
  case round =>
    obtain ⟨i, a, b, c, rfl, hi, hs, ho, hT, hR, hbel⟩ := hrel
    clear HT HR HB HS0 HO0
    have HT := Lib.hid hT
    have HR := Lib.hid hR
    have HB := Lib.hid hbel
    have HS := Lib.hid hs
    have HO := Lib.hid ho
    clear hT hR hbel hs ho
    obtain ⟨ne_T_R, ne_R_T, le_T, le_R⟩ := HNE.out
    have HEND := Lib.hid (fun w => l07Ended_any k a b c w HK.out)
    have HSTEP := Lib.hid (fun w => l07Step_any k a b c w HK.out (isSt_B HS.out).1 (isSt_B HS.out).2.1 (isSt_B HS.out).2.2)
    cases he : rEnd k b c
    · rw [he] at HEND
      by_cases h300 : i = 300
      · have HE : Hid (Oo = none) := by
          show _ = _
          rw [← HO.out, show 300 - i = 0 from by omega, endF_zero (show enT k (a, b, c) = false from he)]
          rfl
        subst h300
        clear he
        obtain ⟨⟨qT0, qT1, qT2⟩, ⟨fT0, fT1, fT2⟩, zT⟩ := HT.out
        obtain ⟨⟨qR0, qR1, qR2⟩, ⟨fR0, fR1, fR2⟩, zR⟩ := HR.out
        go_wp2_with fail
        go_at_call 64
        refine (HEND.out _).mono ?_
        rintro e w21 ⟨rfl, hb⟩
        clear qT0 fT0 qT1 fT1 qT2 fT2 zT qR0 fR0 qR1 fR1 qR2 fR2 zR
        have HT := Lib.hid (HT.out.below hb)
        have HR := Lib.hid (HR.out.below hb)
        have HB := Lib.hid (below_after hb HB.out)
        clear hb
        obtain ⟨⟨qT0, qT1, qT2⟩, ⟨fT0, fT1, fT2⟩, zT⟩ := HT.out
        obtain ⟨⟨qR0, qR1, qR2⟩, ⟨fR0, fR1, fR2⟩, zR⟩ := HR.out
        go_wp2_with fail
        refine bodyPost_ret (v := .tuple #[.agg #[.int .i64 0, .int .i64 0, .int .i64 0], .int .i64 0, .bool false]) (by simp (maxDischargeDepth := 8) [results, Try.results67, go_sem, *]) rfl ?_
        have hb := HB.out
        exact ⟨by rw [HE.out]; rfl, by (repeat' (first | (with_reducible exact Below.refl _ _) | (with_reducible refine Below.alloc ?_ ?_ _) | (with_reducible refine Below.setCell ?_ ?_ _) | (with_reducible refine Below.drew ?_) | (with_reducible refine below_drewN ?_ _) | (with_reducible assumption) | (with_reducible refine below_after (by with_reducible assumption) ?_) | go_size))⟩
      · have HN1 : Hid ((endF k (300 - (i + 1)) (nxT k (a, b, c))).map (fun p => (p.1, p.2 + (i + 1))) = Oo) := by
          show _ = _
          rw [← HO.out, endF_next (k := k) (f := 300 - i) (by omega) (show enT k (a, b, c) = false from he), show 300 - i - 1 = 300 - (i + 1) from by omega]
          cases endF k (300 - (i + 1)) (nxT k (a, b, c)) with
          | none => rfl
          | some q => simp; omega
        have HS2 := Lib.hid (nxT_sorted HK.out HS.out he)
        have HLT : Hid (i < 300) := by show _ < _; omega
        have h3 : ((i : Int) == 300) = false := by simp; omega
        obtain ⟨⟨a', b', c'⟩, hnx⟩ : ∃ s, stT k a b c = s := ⟨_, rfl⟩
        rw [show nxT k (a, b, c) = stT k a b c from rfl, hnx] at HN1
        rw [hnx] at HS2 HSTEP
        simp only at HS2 HSTEP
        clear he hnx HS HO h300
        obtain ⟨⟨qT0, qT1, qT2⟩, ⟨fT0, fT1, fT2⟩, zT⟩ := HT.out
        obtain ⟨⟨qR0, qR1, qR2⟩, ⟨fR0, fR1, fR2⟩, zR⟩ := HR.out
        go_wp2_with fail
        go_at_call 64
        refine (HEND.out _).mono ?_
        rintro e w21 ⟨rfl, hb⟩
        clear qT0 fT0 qT1 fT1 qT2 fT2 zT qR0 fR0 qR1 fR1 qR2 fR2 zR
        have HT := Lib.hid (HT.out.below hb)
        have HR := Lib.hid (HR.out.below hb)
        have HB := Lib.hid (below_after hb HB.out)
        clear hb
        obtain ⟨⟨qT0, qT1, qT2⟩, ⟨fT0, fT1, fT2⟩, zT⟩ := HT.out
        obtain ⟨⟨qR0, qR1, qR2⟩, ⟨fR0, fR1, fR2⟩, zR⟩ := HR.out
        go_wp2_with fail
        go_at_call 60
        refine (HSTEP.out _).mono ?_
        rintro e w22 ⟨rfl, hb⟩
        clear qT0 fT0 qT1 fT1 qT2 fT2 zT qR0 fR0 qR1 fR1 qR2 fR2 zR
        have HT := Lib.hid (HT.out.below hb)
        have HR := Lib.hid (HR.out.below hb)
        have HB := Lib.hid (below_after hb HB.out)
        clear hb
        obtain ⟨⟨qT0, qT1, qT2⟩, ⟨fT0, fT1, fT2⟩, zT⟩ := HT.out
        obtain ⟨⟨qR0, qR1, qR2⟩, ⟨fR0, fR1, fR2⟩, zR⟩ := HR.out
        go_upto_region 6 with fail
        obtain ⟨w23, hw23⟩ : ∃ wx, wx = (((w22.setCell ⟨GT, 0, none⟩ (.int .i64 a')).setCell ⟨GT, 1, none⟩ (.int .i64 b')).setCell ⟨GT, 2, none⟩ (.int .i64 c')) := ⟨_, rfl⟩
        rw [← hw23]
        clear qT0 fT0 qT1 fT1 qT2 fT2 zT qR0 fR0 qR1 fR1 qR2 fR2 zR
        have HR := Lib.hid (((HR.out.far ⟨GT, 0, none⟩ (.int .i64 a') (by show GR ≠ GT; exact ne_R_T)).far ⟨GT, 1, none⟩ (.int .i64 b') (by show GR ≠ GT; exact ne_R_T)).far ⟨GT, 2, none⟩ (.int .i64 c') (by show GR ≠ GT; exact ne_R_T))
        have HT := Lib.hid (((HT.out.set0 a').set1 b').set2 c')
        have HB := Lib.hid (Below.setCell (Below.setCell (Below.setCell HB.out (p := ⟨GT, 0, none⟩) le_T (.int .i64 a')) (p := ⟨GT, 1, none⟩) le_T (.int .i64 b')) (p := ⟨GT, 2, none⟩) le_T (.int .i64 c'))
        rw [← hw23] at HT HR HB
        clear hw23
        go_wp2_with fail
        go_roundw
        case rel => exact ⟨i + 1, a', b', c', by go_num, by have := HLT.out; omega, HS2.out, HN1.out, HT.out, HR.out, HB.out⟩
        case measure =>
          show 301 - ((i : Int) + 1).toNat < 301 - ((i : Int)).toNat
          omega
    · rw [he] at HEND
      have HE : Hid (Oo = some ((a, b, c), i)) := by
        show _ = _
        rw [← HO.out, endF_end (show enT k (a, b, c) = true from he)]
        simp
      clear he
      obtain ⟨⟨qT0, qT1, qT2⟩, ⟨fT0, fT1, fT2⟩, zT⟩ := HT.out
      obtain ⟨⟨qR0, qR1, qR2⟩, ⟨fR0, fR1, fR2⟩, zR⟩ := HR.out
      go_wp2_with fail
      go_at_call 64
      refine (HEND.out _).mono ?_
      rintro e w21 ⟨rfl, hb⟩
      clear qT0 fT0 qT1 fT1 qT2 fT2 zT qR0 fR0 qR1 fR1 qR2 fR2 zR
      have HT := Lib.hid (HT.out.below hb)
      have HR := Lib.hid (HR.out.below hb)
      have HB := Lib.hid (below_after hb HB.out)
      clear hb
      obtain ⟨⟨qT0, qT1, qT2⟩, ⟨fT0, fT1, fT2⟩, zT⟩ := HT.out
      obtain ⟨⟨qR0, qR1, qR2⟩, ⟨fR0, fR1, fR2⟩, zR⟩ := HR.out
      go_wp2_with fail
      refine bodyPost_ret (v := .tuple #[.agg #[.int .i64 a, .int .i64 b, .int .i64 c], .int .i64 (i : Int), .bool true]) (by simp (maxDischargeDepth := 8) [results, Try.results67, go_sem, *]) rfl ?_
      have hb := HB.out
      exact ⟨by rw [HE.out]; rfl, by (repeat' (first | (with_reducible exact Below.refl _ _) | (with_reducible refine Below.alloc ?_ ?_ _) | (with_reducible refine Below.setCell ?_ ?_ _) | (with_reducible refine Below.drew ?_) | (with_reducible refine below_drewN ?_ _) | (with_reducible assumption) | (with_reducible refine below_after (by with_reducible assumption) ?_) | go_size))⟩
theorem l07End_any (k : Nat) (hk : k < 4) (a b c : Int) (hs : isSt a b c = true) (w : World) : Calls Try.prog 67 #[.agg #[.int .i64 a, .int .i64 b, .int .i64 c], .int .i64 (k : Int)] w fun e w' => e = .returned (.tuple #[.agg #[.int .i64 ((eE (endF k 300 (a, b, c))).1), .int .i64 ((eE (endF k 300 (a, b, c))).2.1), .int .i64 ((eE (endF k 300 (a, b, c))).2.2)], .int .i64 (eN (endF k 300 (a, b, c))), .bool (eB (endF k 300 (a, b, c)))]) ∧ Below w.heap.size w w' := l07End_ok k hk a b c hs _ rfl w
/-- What both answer. -/
def enO (a b c r : Int) : Option (T3 × Nat) := endF r.toNat 300 (a, b, c)
def lnK (a b c r : Int) : Int := if scd a b c r = 0 then (if eB (enO a b c r) = true then 0 else 3) else scd a b c r
def lnV (a b c r : Int) : Int := if scd a b c r = 0 then eN (enO a b c r) else 0
def edV (a b c r : Int) : T3 := if scd a b c r = 0 then eE (enO a b c r) else (0, 0, 0)
set_option maxHeartbeats 1600000 in
theorem spec_LengthOfRun_any (a b c r : Int) (w : World) : Calls Try.prog 31 #[.agg #[.int .i64 a, .int .i64 b, .int .i64 c], .int .i64 r] w fun e w' => e = .returned (.tuple #[.int .i64 (lnV a b c r), .int .i64 (lnK a b c r)]) ∧ Below w.heap.size w w' := by
  have HC := Lib.hid (fun w => l07Code_any a b c r w)
  unfold lnV lnK
  rcases scd_cases a b c r with ⟨h0, hs, k, rfl, hk⟩ | ⟨h0, h1⟩
  · rw [if_pos h0, if_pos h0]
    unfold enO
    rw [Int.toNat_natCast]
    rw [h0] at HC
    have HE := Lib.hid (fun w => l07End_any k hk a b c hs w)
    cases ho : endF k 300 (a, b, c) with
    | none =>
      rw [ho] at HE
      simp only [eE, eN, eB, Bool.false_eq_true, if_false] at HE ⊢
      clear h0 hs hk ho
      obtain ⟨GT, hG⟩ : ∃ G, w.heap.size = G := ⟨_, rfl⟩
      have HG := Lib.hid hG
      go_enter Try.func31, Try.ntmps31
      go_upto_region 1 with fail
      obtain ⟨w0, hw0⟩ : ∃ w0, w0 = (w.alloc (.cells #[.int .i64 a, .int .i64 b, .int .i64 c] 24)) := ⟨_, rfl⟩
      rw [← hw0]
      have HT : Hid (Bk3 w0 GT a b c) := by
        have h := (bk3_new w a b c 24).below (W' := (w.alloc (.cells #[.int .i64 a, .int .i64 b, .int .i64 c] 24))) (by (repeat' (first | (with_reducible exact Below.refl _ _) | (with_reducible refine Below.alloc ?_ ?_ _) | (with_reducible refine Below.setCell ?_ ?_ _) | (with_reducible refine Below.drew ?_) | (with_reducible refine below_drewN ?_ _) | (with_reducible assumption) | (with_reducible refine below_after (by with_reducible assumption) ?_) | go_size)))
        (try simp only [World.size_alloc] at h)
        rw [hG] at h
        rw [hw0]; exact h
      have HB : Hid (Below w.heap.size w w0) := by show Below w.heap.size w w0; rw [hw0]; (repeat' (first | (with_reducible exact Below.refl _ _) | (with_reducible refine Below.alloc ?_ ?_ _) | (with_reducible refine Below.setCell ?_ ?_ _) | (with_reducible refine Below.drew ?_) | (with_reducible refine below_drewN ?_ _) | (with_reducible assumption) | (with_reducible refine below_after (by with_reducible assumption) ?_) | go_size))
      clear hw0
      have le_T : w.heap.size ≤ GT := by omega
      obtain ⟨⟨qT0, qT1, qT2⟩, ⟨fT0, fT1, fT2⟩, zT⟩ := HT.out
      go_wp2_with fail
      go_at_call 59
      refine (HC.out _).mono ?_
      rintro e w1 ⟨rfl, hb⟩
      clear qT0 fT0 qT1 fT1 qT2 fT2 zT
      have HT := Lib.hid (HT.out.below hb)
      have HB := Lib.hid (below_after hb HB.out)
      clear hb
      obtain ⟨⟨qT0, qT1, qT2⟩, ⟨fT0, fT1, fT2⟩, zT⟩ := HT.out
      go_wp2_with fail
      go_at_call 67
      refine (HE.out _).mono ?_
      rintro e w2 ⟨rfl, hb⟩
      clear qT0 fT0 qT1 fT1 qT2 fT2 zT
      have HT := Lib.hid (HT.out.below hb)
      have HB := Lib.hid (below_after hb HB.out)
      clear hb
      obtain ⟨⟨qT0, qT1, qT2⟩, ⟨fT0, fT1, fT2⟩, zT⟩ := HT.out
      go_wp2_with fail
      refine bodyPost_ret (v := .tuple #[.int .i64 0, .int .i64 3]) (by simp (maxDischargeDepth := 8) [results, Try.results31, go_sem, *]) rfl ?_
      have hb := HB.out
      exact ⟨rfl, by (repeat' (first | (with_reducible exact Below.refl _ _) | (with_reducible refine Below.alloc ?_ ?_ _) | (with_reducible refine Below.setCell ?_ ?_ _) | (with_reducible refine Below.drew ?_) | (with_reducible refine below_drewN ?_ _) | (with_reducible assumption) | (with_reducible refine below_after (by with_reducible assumption) ?_) | go_size))⟩
    | some p =>
      obtain ⟨⟨X, Y, Z⟩, m⟩ := p
      rw [ho] at HE
      simp only [eE, eN, eB, if_true] at HE ⊢
      obtain ⟨N, hN⟩ : ∃ N : Int, (m : Int) = N := ⟨_, rfl⟩
      rw [hN] at HE
      (try rw [hN])
      clear h0 hs hk ho hN
      obtain ⟨GT, hG⟩ : ∃ G, w.heap.size = G := ⟨_, rfl⟩
      have HG := Lib.hid hG
      go_enter Try.func31, Try.ntmps31
      go_upto_region 1 with fail
      obtain ⟨w0, hw0⟩ : ∃ w0, w0 = (w.alloc (.cells #[.int .i64 a, .int .i64 b, .int .i64 c] 24)) := ⟨_, rfl⟩
      rw [← hw0]
      have HT : Hid (Bk3 w0 GT a b c) := by
        have h := (bk3_new w a b c 24).below (W' := (w.alloc (.cells #[.int .i64 a, .int .i64 b, .int .i64 c] 24))) (by (repeat' (first | (with_reducible exact Below.refl _ _) | (with_reducible refine Below.alloc ?_ ?_ _) | (with_reducible refine Below.setCell ?_ ?_ _) | (with_reducible refine Below.drew ?_) | (with_reducible refine below_drewN ?_ _) | (with_reducible assumption) | (with_reducible refine below_after (by with_reducible assumption) ?_) | go_size)))
        (try simp only [World.size_alloc] at h)
        rw [hG] at h
        rw [hw0]; exact h
      have HB : Hid (Below w.heap.size w w0) := by show Below w.heap.size w w0; rw [hw0]; (repeat' (first | (with_reducible exact Below.refl _ _) | (with_reducible refine Below.alloc ?_ ?_ _) | (with_reducible refine Below.setCell ?_ ?_ _) | (with_reducible refine Below.drew ?_) | (with_reducible refine below_drewN ?_ _) | (with_reducible assumption) | (with_reducible refine below_after (by with_reducible assumption) ?_) | go_size))
      clear hw0
      have le_T : w.heap.size ≤ GT := by omega
      obtain ⟨⟨qT0, qT1, qT2⟩, ⟨fT0, fT1, fT2⟩, zT⟩ := HT.out
      go_wp2_with fail
      go_at_call 59
      refine (HC.out _).mono ?_
      rintro e w1 ⟨rfl, hb⟩
      clear qT0 fT0 qT1 fT1 qT2 fT2 zT
      have HT := Lib.hid (HT.out.below hb)
      have HB := Lib.hid (below_after hb HB.out)
      clear hb
      obtain ⟨⟨qT0, qT1, qT2⟩, ⟨fT0, fT1, fT2⟩, zT⟩ := HT.out
      go_wp2_with fail
      go_at_call 67
      refine (HE.out _).mono ?_
      rintro e w2 ⟨rfl, hb⟩
      clear qT0 fT0 qT1 fT1 qT2 fT2 zT
      have HT := Lib.hid (HT.out.below hb)
      have HB := Lib.hid (below_after hb HB.out)
      clear hb
      obtain ⟨⟨qT0, qT1, qT2⟩, ⟨fT0, fT1, fT2⟩, zT⟩ := HT.out
      go_wp2_with fail
      refine bodyPost_ret (v := .tuple #[.int .i64 N, .int .i64 0]) (by simp (maxDischargeDepth := 8) [results, Try.results31, go_sem, *]) rfl ?_
      have hb := HB.out
      exact ⟨rfl, by (repeat' (first | (with_reducible exact Below.refl _ _) | (with_reducible refine Below.alloc ?_ ?_ _) | (with_reducible refine Below.setCell ?_ ?_ _) | (with_reducible refine Below.drew ?_) | (with_reducible refine below_drewN ?_ _) | (with_reducible assumption) | (with_reducible refine below_after (by with_reducible assumption) ?_) | go_size))⟩
  · rw [if_neg h1, if_neg h1]
    obtain ⟨K, hK⟩ : ∃ K, scd a b c r = K := ⟨_, rfl⟩
    rw [hK] at HC h0 h1 ⊢
    clear hK h1
    obtain ⟨GT, hG⟩ : ∃ G, w.heap.size = G := ⟨_, rfl⟩
    have HG := Lib.hid hG
    go_enter Try.func31, Try.ntmps31
    go_upto_region 1 with fail
    obtain ⟨w0, hw0⟩ : ∃ w0, w0 = (w.alloc (.cells #[.int .i64 a, .int .i64 b, .int .i64 c] 24)) := ⟨_, rfl⟩
    rw [← hw0]
    have HT : Hid (Bk3 w0 GT a b c) := by
      have h := (bk3_new w a b c 24).below (W' := (w.alloc (.cells #[.int .i64 a, .int .i64 b, .int .i64 c] 24))) (by (repeat' (first | (with_reducible exact Below.refl _ _) | (with_reducible refine Below.alloc ?_ ?_ _) | (with_reducible refine Below.setCell ?_ ?_ _) | (with_reducible refine Below.drew ?_) | (with_reducible refine below_drewN ?_ _) | (with_reducible assumption) | (with_reducible refine below_after (by with_reducible assumption) ?_) | go_size)))
      (try simp only [World.size_alloc] at h)
      rw [hG] at h
      rw [hw0]; exact h
    have HB : Hid (Below w.heap.size w w0) := by show Below w.heap.size w w0; rw [hw0]; (repeat' (first | (with_reducible exact Below.refl _ _) | (with_reducible refine Below.alloc ?_ ?_ _) | (with_reducible refine Below.setCell ?_ ?_ _) | (with_reducible refine Below.drew ?_) | (with_reducible refine below_drewN ?_ _) | (with_reducible assumption) | (with_reducible refine below_after (by with_reducible assumption) ?_) | go_size))
    clear hw0
    have le_T : w.heap.size ≤ GT := by omega
    obtain ⟨⟨qT0, qT1, qT2⟩, ⟨fT0, fT1, fT2⟩, zT⟩ := HT.out
    go_wp2_with fail
    go_at_call 59
    refine (HC.out _).mono ?_
    rintro e w1 ⟨rfl, hb⟩
    clear qT0 fT0 qT1 fT1 qT2 fT2 zT
    have HT := Lib.hid (HT.out.below hb)
    have HB := Lib.hid (below_after hb HB.out)
    clear hb
    obtain ⟨⟨qT0, qT1, qT2⟩, ⟨fT0, fT1, fT2⟩, zT⟩ := HT.out
    go_wp2_with fail
    refine bodyPost_ret (v := .tuple #[.int .i64 0, .int .i64 K]) (by simp (maxDischargeDepth := 8) [results, Try.results31, go_sem, *]) rfl ?_
    have hb := HB.out
    exact ⟨rfl, by (repeat' (first | (with_reducible exact Below.refl _ _) | (with_reducible refine Below.alloc ?_ ?_ _) | (with_reducible refine Below.setCell ?_ ?_ _) | (with_reducible refine Below.drew ?_) | (with_reducible refine below_drewN ?_ _) | (with_reducible assumption) | (with_reducible refine below_after (by with_reducible assumption) ?_) | go_size))⟩
set_option maxHeartbeats 1600000 in
theorem spec_EndOfRun_any (a b c r : Int) (w : World) : Calls Try.prog 33 #[.agg #[.int .i64 a, .int .i64 b, .int .i64 c], .int .i64 r] w fun e w' => e = .returned (.tuple #[.agg #[.int .i64 ((edV a b c r).1), .int .i64 ((edV a b c r).2.1), .int .i64 ((edV a b c r).2.2)], .int .i64 (lnK a b c r)]) ∧ Below w.heap.size w w' := by
  have HC := Lib.hid (fun w => l07Code_any a b c r w)
  unfold edV lnK
  rcases scd_cases a b c r with ⟨h0, hs, k, rfl, hk⟩ | ⟨h0, h1⟩
  · rw [if_pos h0, if_pos h0]
    unfold enO
    rw [Int.toNat_natCast]
    rw [h0] at HC
    have HE := Lib.hid (fun w => l07End_any k hk a b c hs w)
    cases ho : endF k 300 (a, b, c) with
    | none =>
      rw [ho] at HE
      simp only [eE, eN, eB, Bool.false_eq_true, if_false] at HE ⊢
      clear h0 hs hk ho
      obtain ⟨GT, hG⟩ : ∃ G, w.heap.size = G := ⟨_, rfl⟩
      have HG := Lib.hid hG
      go_enter Try.func33, Try.ntmps33
      go_upto_region 1 with fail
      obtain ⟨w0, hw0⟩ : ∃ w0, w0 = ((w.alloc (.cells #[.int .i64 a, .int .i64 b, .int .i64 c] 24)).alloc (.cells #[.int .i64 0, .int .i64 0, .int .i64 0] 24)) := ⟨_, rfl⟩
      rw [← hw0]
      have HT : Hid (Bk3 w0 GT a b c) := by
        have h := (bk3_new w a b c 24).below (W' := ((w.alloc (.cells #[.int .i64 a, .int .i64 b, .int .i64 c] 24)).alloc (.cells #[.int .i64 0, .int .i64 0, .int .i64 0] 24))) (by (repeat' (first | (with_reducible exact Below.refl _ _) | (with_reducible refine Below.alloc ?_ ?_ _) | (with_reducible refine Below.setCell ?_ ?_ _) | (with_reducible refine Below.drew ?_) | (with_reducible refine below_drewN ?_ _) | (with_reducible assumption) | (with_reducible refine below_after (by with_reducible assumption) ?_) | go_size)))
        (try simp only [World.size_alloc] at h)
        rw [hG] at h
        rw [hw0]; exact h
      have HR : Hid (Bk3 w0 (GT + 1) 0 0 0) := by
        have h := (bk3_new (w.alloc (.cells #[.int .i64 a, .int .i64 b, .int .i64 c] 24)) 0 0 0 24).below (W' := ((w.alloc (.cells #[.int .i64 a, .int .i64 b, .int .i64 c] 24)).alloc (.cells #[.int .i64 0, .int .i64 0, .int .i64 0] 24))) (by (repeat' (first | (with_reducible exact Below.refl _ _) | (with_reducible refine Below.alloc ?_ ?_ _) | (with_reducible refine Below.setCell ?_ ?_ _) | (with_reducible refine Below.drew ?_) | (with_reducible refine below_drewN ?_ _) | (with_reducible assumption) | (with_reducible refine below_after (by with_reducible assumption) ?_) | go_size)))
        (try simp only [World.size_alloc] at h)
        rw [hG] at h
        rw [hw0]; exact h
      have HB : Hid (Below w.heap.size w w0) := by show Below w.heap.size w w0; rw [hw0]; (repeat' (first | (with_reducible exact Below.refl _ _) | (with_reducible refine Below.alloc ?_ ?_ _) | (with_reducible refine Below.setCell ?_ ?_ _) | (with_reducible refine Below.drew ?_) | (with_reducible refine below_drewN ?_ _) | (with_reducible assumption) | (with_reducible refine below_after (by with_reducible assumption) ?_) | go_size))
      clear hw0
      obtain ⟨GR, hGR⟩ : ∃ g, GT + 1 = g := ⟨_, rfl⟩
      rw [hGR] at HR ⊢
      have le_T : w.heap.size ≤ GT := by omega
      have le_R : w.heap.size ≤ GR := by omega
      have ne_R_T : GR ≠ GT := by omega
      have ne_T_R : GT ≠ GR := by omega
      clear hGR
      obtain ⟨⟨qT0, qT1, qT2⟩, ⟨fT0, fT1, fT2⟩, zT⟩ := HT.out
      obtain ⟨⟨qR0, qR1, qR2⟩, ⟨fR0, fR1, fR2⟩, zR⟩ := HR.out
      go_wp2_with fail
      go_at_call 59
      refine (HC.out _).mono ?_
      rintro e w1 ⟨rfl, hb⟩
      clear qT0 fT0 qT1 fT1 qT2 fT2 zT qR0 fR0 qR1 fR1 qR2 fR2 zR
      have HT := Lib.hid (HT.out.below hb)
      have HR := Lib.hid (HR.out.below hb)
      have HB := Lib.hid (below_after hb HB.out)
      clear hb
      obtain ⟨⟨qT0, qT1, qT2⟩, ⟨fT0, fT1, fT2⟩, zT⟩ := HT.out
      obtain ⟨⟨qR0, qR1, qR2⟩, ⟨fR0, fR1, fR2⟩, zR⟩ := HR.out
      go_wp2_with fail
      go_at_call 67
      refine (HE.out _).mono ?_
      rintro e w2 ⟨rfl, hb⟩
      clear qT0 fT0 qT1 fT1 qT2 fT2 zT qR0 fR0 qR1 fR1 qR2 fR2 zR
      have HT := Lib.hid (HT.out.below hb)
      have HR := Lib.hid (HR.out.below hb)
      have HB := Lib.hid (below_after hb HB.out)
      clear hb
      obtain ⟨⟨qT0, qT1, qT2⟩, ⟨fT0, fT1, fT2⟩, zT⟩ := HT.out
      obtain ⟨⟨qR0, qR1, qR2⟩, ⟨fR0, fR1, fR2⟩, zR⟩ := HR.out
      go_wp2_with fail
      refine bodyPost_ret (v := .tuple #[.agg #[.int .i64 0, .int .i64 0, .int .i64 0], .int .i64 3]) (by simp (maxDischargeDepth := 8) [results, Try.results33, go_sem, *]) rfl ?_
      have hb := HB.out
      exact ⟨rfl, by (repeat' (first | (with_reducible exact Below.refl _ _) | (with_reducible refine Below.alloc ?_ ?_ _) | (with_reducible refine Below.setCell ?_ ?_ _) | (with_reducible refine Below.drew ?_) | (with_reducible refine below_drewN ?_ _) | (with_reducible assumption) | (with_reducible refine below_after (by with_reducible assumption) ?_) | go_size))⟩
    | some p =>
      obtain ⟨⟨X, Y, Z⟩, m⟩ := p
      rw [ho] at HE
      simp only [eE, eN, eB, if_true] at HE ⊢
      obtain ⟨N, hN⟩ : ∃ N : Int, (m : Int) = N := ⟨_, rfl⟩
      rw [hN] at HE
      (try rw [hN])
      clear h0 hs hk ho hN
      obtain ⟨GT, hG⟩ : ∃ G, w.heap.size = G := ⟨_, rfl⟩
      have HG := Lib.hid hG
      go_enter Try.func33, Try.ntmps33
      go_upto_region 1 with fail
      obtain ⟨w0, hw0⟩ : ∃ w0, w0 = ((w.alloc (.cells #[.int .i64 a, .int .i64 b, .int .i64 c] 24)).alloc (.cells #[.int .i64 0, .int .i64 0, .int .i64 0] 24)) := ⟨_, rfl⟩
      rw [← hw0]
      have HT : Hid (Bk3 w0 GT a b c) := by
        have h := (bk3_new w a b c 24).below (W' := ((w.alloc (.cells #[.int .i64 a, .int .i64 b, .int .i64 c] 24)).alloc (.cells #[.int .i64 0, .int .i64 0, .int .i64 0] 24))) (by (repeat' (first | (with_reducible exact Below.refl _ _) | (with_reducible refine Below.alloc ?_ ?_ _) | (with_reducible refine Below.setCell ?_ ?_ _) | (with_reducible refine Below.drew ?_) | (with_reducible refine below_drewN ?_ _) | (with_reducible assumption) | (with_reducible refine below_after (by with_reducible assumption) ?_) | go_size)))
        (try simp only [World.size_alloc] at h)
        rw [hG] at h
        rw [hw0]; exact h
      have HR : Hid (Bk3 w0 (GT + 1) 0 0 0) := by
        have h := (bk3_new (w.alloc (.cells #[.int .i64 a, .int .i64 b, .int .i64 c] 24)) 0 0 0 24).below (W' := ((w.alloc (.cells #[.int .i64 a, .int .i64 b, .int .i64 c] 24)).alloc (.cells #[.int .i64 0, .int .i64 0, .int .i64 0] 24))) (by (repeat' (first | (with_reducible exact Below.refl _ _) | (with_reducible refine Below.alloc ?_ ?_ _) | (with_reducible refine Below.setCell ?_ ?_ _) | (with_reducible refine Below.drew ?_) | (with_reducible refine below_drewN ?_ _) | (with_reducible assumption) | (with_reducible refine below_after (by with_reducible assumption) ?_) | go_size)))
        (try simp only [World.size_alloc] at h)
        rw [hG] at h
        rw [hw0]; exact h
      have HB : Hid (Below w.heap.size w w0) := by show Below w.heap.size w w0; rw [hw0]; (repeat' (first | (with_reducible exact Below.refl _ _) | (with_reducible refine Below.alloc ?_ ?_ _) | (with_reducible refine Below.setCell ?_ ?_ _) | (with_reducible refine Below.drew ?_) | (with_reducible refine below_drewN ?_ _) | (with_reducible assumption) | (with_reducible refine below_after (by with_reducible assumption) ?_) | go_size))
      clear hw0
      obtain ⟨GR, hGR⟩ : ∃ g, GT + 1 = g := ⟨_, rfl⟩
      rw [hGR] at HR ⊢
      have le_T : w.heap.size ≤ GT := by omega
      have le_R : w.heap.size ≤ GR := by omega
      have ne_R_T : GR ≠ GT := by omega
      have ne_T_R : GT ≠ GR := by omega
      clear hGR
      obtain ⟨⟨qT0, qT1, qT2⟩, ⟨fT0, fT1, fT2⟩, zT⟩ := HT.out
      obtain ⟨⟨qR0, qR1, qR2⟩, ⟨fR0, fR1, fR2⟩, zR⟩ := HR.out
      go_wp2_with fail
      go_at_call 59
      refine (HC.out _).mono ?_
      rintro e w1 ⟨rfl, hb⟩
      clear qT0 fT0 qT1 fT1 qT2 fT2 zT qR0 fR0 qR1 fR1 qR2 fR2 zR
      have HT := Lib.hid (HT.out.below hb)
      have HR := Lib.hid (HR.out.below hb)
      have HB := Lib.hid (below_after hb HB.out)
      clear hb
      obtain ⟨⟨qT0, qT1, qT2⟩, ⟨fT0, fT1, fT2⟩, zT⟩ := HT.out
      obtain ⟨⟨qR0, qR1, qR2⟩, ⟨fR0, fR1, fR2⟩, zR⟩ := HR.out
      go_wp2_with fail
      go_at_call 67
      refine (HE.out _).mono ?_
      rintro e w2 ⟨rfl, hb⟩
      clear qT0 fT0 qT1 fT1 qT2 fT2 zT qR0 fR0 qR1 fR1 qR2 fR2 zR
      have HT := Lib.hid (HT.out.below hb)
      have HR := Lib.hid (HR.out.below hb)
      have HB := Lib.hid (below_after hb HB.out)
      clear hb
      obtain ⟨⟨qT0, qT1, qT2⟩, ⟨fT0, fT1, fT2⟩, zT⟩ := HT.out
      obtain ⟨⟨qR0, qR1, qR2⟩, ⟨fR0, fR1, fR2⟩, zR⟩ := HR.out
      go_wp2_with fail
      refine bodyPost_ret (v := .tuple #[.agg #[.int .i64 X, .int .i64 Y, .int .i64 Z], .int .i64 0]) (by simp (maxDischargeDepth := 8) [results, Try.results33, go_sem, *]) rfl ?_
      have hb := HB.out
      exact ⟨rfl, by (repeat' (first | (with_reducible exact Below.refl _ _) | (with_reducible refine Below.alloc ?_ ?_ _) | (with_reducible refine Below.setCell ?_ ?_ _) | (with_reducible refine Below.drew ?_) | (with_reducible refine below_drewN ?_ _) | (with_reducible assumption) | (with_reducible refine below_after (by with_reducible assumption) ?_) | go_size))⟩
  · rw [if_neg h1, if_neg h1]
    obtain ⟨K, hK⟩ : ∃ K, scd a b c r = K := ⟨_, rfl⟩
    rw [hK] at HC h0 h1 ⊢
    clear hK h1
    obtain ⟨GT, hG⟩ : ∃ G, w.heap.size = G := ⟨_, rfl⟩
    have HG := Lib.hid hG
    go_enter Try.func33, Try.ntmps33
    go_upto_region 1 with fail
    obtain ⟨w0, hw0⟩ : ∃ w0, w0 = ((w.alloc (.cells #[.int .i64 a, .int .i64 b, .int .i64 c] 24)).alloc (.cells #[.int .i64 0, .int .i64 0, .int .i64 0] 24)) := ⟨_, rfl⟩
    rw [← hw0]
    have HT : Hid (Bk3 w0 GT a b c) := by
      have h := (bk3_new w a b c 24).below (W' := ((w.alloc (.cells #[.int .i64 a, .int .i64 b, .int .i64 c] 24)).alloc (.cells #[.int .i64 0, .int .i64 0, .int .i64 0] 24))) (by (repeat' (first | (with_reducible exact Below.refl _ _) | (with_reducible refine Below.alloc ?_ ?_ _) | (with_reducible refine Below.setCell ?_ ?_ _) | (with_reducible refine Below.drew ?_) | (with_reducible refine below_drewN ?_ _) | (with_reducible assumption) | (with_reducible refine below_after (by with_reducible assumption) ?_) | go_size)))
      (try simp only [World.size_alloc] at h)
      rw [hG] at h
      rw [hw0]; exact h
    have HR : Hid (Bk3 w0 (GT + 1) 0 0 0) := by
      have h := (bk3_new (w.alloc (.cells #[.int .i64 a, .int .i64 b, .int .i64 c] 24)) 0 0 0 24).below (W' := ((w.alloc (.cells #[.int .i64 a, .int .i64 b, .int .i64 c] 24)).alloc (.cells #[.int .i64 0, .int .i64 0, .int .i64 0] 24))) (by (repeat' (first | (with_reducible exact Below.refl _ _) | (with_reducible refine Below.alloc ?_ ?_ _) | (with_reducible refine Below.setCell ?_ ?_ _) | (with_reducible refine Below.drew ?_) | (with_reducible refine below_drewN ?_ _) | (with_reducible assumption) | (with_reducible refine below_after (by with_reducible assumption) ?_) | go_size)))
      (try simp only [World.size_alloc] at h)
      rw [hG] at h
      rw [hw0]; exact h
    have HB : Hid (Below w.heap.size w w0) := by show Below w.heap.size w w0; rw [hw0]; (repeat' (first | (with_reducible exact Below.refl _ _) | (with_reducible refine Below.alloc ?_ ?_ _) | (with_reducible refine Below.setCell ?_ ?_ _) | (with_reducible refine Below.drew ?_) | (with_reducible refine below_drewN ?_ _) | (with_reducible assumption) | (with_reducible refine below_after (by with_reducible assumption) ?_) | go_size))
    clear hw0
    obtain ⟨GR, hGR⟩ : ∃ g, GT + 1 = g := ⟨_, rfl⟩
    rw [hGR] at HR ⊢
    have le_T : w.heap.size ≤ GT := by omega
    have le_R : w.heap.size ≤ GR := by omega
    have ne_R_T : GR ≠ GT := by omega
    have ne_T_R : GT ≠ GR := by omega
    clear hGR
    obtain ⟨⟨qT0, qT1, qT2⟩, ⟨fT0, fT1, fT2⟩, zT⟩ := HT.out
    obtain ⟨⟨qR0, qR1, qR2⟩, ⟨fR0, fR1, fR2⟩, zR⟩ := HR.out
    go_wp2_with fail
    go_at_call 59
    refine (HC.out _).mono ?_
    rintro e w1 ⟨rfl, hb⟩
    clear qT0 fT0 qT1 fT1 qT2 fT2 zT qR0 fR0 qR1 fR1 qR2 fR2 zR
    have HT := Lib.hid (HT.out.below hb)
    have HR := Lib.hid (HR.out.below hb)
    have HB := Lib.hid (below_after hb HB.out)
    clear hb
    obtain ⟨⟨qT0, qT1, qT2⟩, ⟨fT0, fT1, fT2⟩, zT⟩ := HT.out
    obtain ⟨⟨qR0, qR1, qR2⟩, ⟨fR0, fR1, fR2⟩, zR⟩ := HR.out
    go_wp2_with fail
    refine bodyPost_ret (v := .tuple #[.agg #[.int .i64 0, .int .i64 0, .int .i64 0], .int .i64 K]) (by simp (maxDischargeDepth := 8) [results, Try.results33, go_sem, *]) rfl ?_
    have hb := HB.out
    exact ⟨rfl, by (repeat' (first | (with_reducible exact Below.refl _ _) | (with_reducible refine Below.alloc ?_ ?_ _) | (with_reducible refine Below.setCell ?_ ?_ _) | (with_reducible refine Below.drew ?_) | (with_reducible refine below_drewN ?_ _) | (with_reducible assumption) | (with_reducible refine below_after (by with_reducible assumption) ?_) | go_size))⟩
end Go.Proofs.Ytbgifgfegndlkaa
