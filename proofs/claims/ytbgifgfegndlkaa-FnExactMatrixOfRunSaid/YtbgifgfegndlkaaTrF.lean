/-
  MatrixOfRun in the model and in the program (own work).
-/
import Derived.Test.YtbgifgfegndlkaaTrI
namespace Go.Proofs.Ytbgifgfegndlkaa
open Go.ChangeShapes Go.WideShapes Go.ChangeAt Go.RowKit
set_option linter.unusedVariables false
set_option linter.unusedSimpArgs false
set_option maxRecDepth 100000

def fitR (r : T3) : Bool := wh r.1 && wh r.2.1 && wh r.2.2
def fitS (s : Stn) : Bool := (fitR s.2.1 && fitR s.2.2.1) && fitR s.2.2.2
def nnR (r : T3) : Prop := 0 ≤ r.1 ∧ 0 ≤ r.2.1 ∧ 0 ≤ r.2.2
def nnS (s : Stn) : Prop := nnR s.2.1 ∧ nnR s.2.2.1 ∧ nnR s.2.2.2
theorem fitR_iff {r : T3} (h : nnR r) : fitR r = true ↔ r.1 ≤ 1000000 ∧ r.2.1 ≤ 1000000 ∧ r.2.2 ≤ 1000000 := by
  obtain ⟨h0, h1, h2⟩ := h
  simp only [fitR, Bool.and_eq_true, wh_iff]
  omega
theorem rAdd_up {k : Nat} (hk : k < 4) {x y z : Int} (h0 : 0 ≤ x) (h1 : 0 ≤ y) (h2 : 0 ≤ z) : x ≤ (rAdd k x y z).1 ∧ y ≤ (rAdd k x y z).2.1 ∧ z ≤ (rAdd k x y z).2.2 := by
  match k, hk with
  | 0, _ => simp only [rAdd]; omega
  | 1, _ => simp only [rAdd]; omega
  | 2, _ => simp only [rAdd]; omega
  | 3, _ => simp only [rAdd]; omega
theorem row_up {k : Nat} (hk : k < 4) (t : T3) {r : T3} (h : nnR r) : nnR (nxR k t r) ∧ (fitR (nxR k t r) = true → fitR r = true) := by
  obtain ⟨h0, h1, h2⟩ := h
  have hup := rAdd_up hk h0 h1 h2
  have hn : nnR (nxR k t r) := by
    unfold nxR rwN nnR
    rcases od_cases (rSub k t.1 t.2.1 t.2.2).1 (rSub k t.1 t.2.1 t.2.2).2.1 (rSub k t.1 t.2.1 t.2.2).2.2 with ⟨e, _⟩ | ⟨e, _⟩ | ⟨e, _⟩ | ⟨e, _⟩ | ⟨e, _⟩ | ⟨e, _⟩ <;> rw [e] <;> simp only [at3, pk] <;> omega
  refine ⟨hn, fun hf => ?_⟩
  rw [fitR_iff hn] at hf
  rw [fitR_iff ⟨h0, h1, h2⟩]
  unfold nxR rwN at hf
  rcases od_cases (rSub k t.1 t.2.1 t.2.2).1 (rSub k t.1 t.2.1 t.2.2).2.1 (rSub k t.1 t.2.1 t.2.2).2.2 with ⟨e, _⟩ | ⟨e, _⟩ | ⟨e, _⟩ | ⟨e, _⟩ | ⟨e, _⟩ | ⟨e, _⟩ <;> rw [e] at hf <;> simp only [at3, pk] at hf <;> omega
theorem stn_up {k : Nat} (hk : k < 4) {s : Stn} (h : nnS s) : nnS (nxS k s) ∧ (fitS (nxS k s) = true → fitS s = true) := by
  obtain ⟨h0, h1, h2⟩ := h
  have u0 := row_up hk s.1 h0
  have u1 := row_up hk s.1 h1
  have u2 := row_up hk s.1 h2
  refine ⟨⟨u0.1, u1.1, u2.1⟩, fun hf => ?_⟩
  simp only [fitS, Bool.and_eq_true] at hf ⊢
  exact ⟨⟨u0.2 hf.1.1, u1.2 hf.1.2⟩, u2.2 hf.2⟩
theorem fit_last {k : Nat} (hk : k < 4) : ∀ (m : Nat) (s s' : Stn), nnS s → fitS s = false → fitS (lastF s' (runL k m s)) = false
  | 0, s, s', _, hf => hf
  | m + 1, s, s', hn, hf => by
    rw [runL]
    split
    · exact hf
    · have u := stn_up hk hn
      have hf2 : fitS (nxS k s) = false := by
        cases h : fitS (nxS k s)
        · rfl
        · rw [u.2 h] at hf; cases hf
      exact fit_last hk m (nxS k s) s u.1 hf2
theorem prd_congr {m n n' : Nat → Int} (h : ∀ c, c < 9 → n c = n' c) {c : Nat} (hc : c < 9) : prd m n c = prd m n' c := by
  unfold prd
  simp only [ps]
  rw [h (0 * 3 + c % 3) (by omega), h (1 * 3 + c % 3) (by omega), h (2 * 3 + c % 3) (by omega)]
theorem nine_F (f : Nat → Int) {c : Nat} (hc : c < 9) : nine (f 0) (f 1) (f 2) (f 3) (f 4) (f 5) (f 6) (f 7) (f 8) c = f c := by
  match c, hc with
  | 0, _ => rfl
  | 1, _ => rfl
  | 2, _ => rfl
  | 3, _ => rfl
  | 4, _ => rfl
  | 5, _ => rfl
  | 6, _ => rfl
  | 7, _ => rfl
  | 8, _ => rfl
/-- The product with a step's matrix is the next station's matrix. -/
theorem times_next {k : Nat} (hk : k < 4) (a b c q0 q1 q2 q3 q4 q5 q6 q7 q8 : Int) : ag9 (prd (nine q0 q1 q2 q3 q4 q5 q6 q7 q8) (nine (mtF (ownF k) (od (rSub k a b c).1 (rSub k a b c).2.1 (rSub k a b c).2.2) 0) (mtF (ownF k) (od (rSub k a b c).1 (rSub k a b c).2.1 (rSub k a b c).2.2) 1) (mtF (ownF k) (od (rSub k a b c).1 (rSub k a b c).2.1 (rSub k a b c).2.2) 2) (mtF (ownF k) (od (rSub k a b c).1 (rSub k a b c).2.1 (rSub k a b c).2.2) 3) (mtF (ownF k) (od (rSub k a b c).1 (rSub k a b c).2.1 (rSub k a b c).2.2) 4) (mtF (ownF k) (od (rSub k a b c).1 (rSub k a b c).2.1 (rSub k a b c).2.2) 5) (mtF (ownF k) (od (rSub k a b c).1 (rSub k a b c).2.1 (rSub k a b c).2.2) 6) (mtF (ownF k) (od (rSub k a b c).1 (rSub k a b c).2.1 (rSub k a b c).2.2) 7) (mtF (ownF k) (od (rSub k a b c).1 (rSub k a b c).2.1 (rSub k a b c).2.2) 8))) =
    .agg #[.int .i64 (nxR k (a, b, c) (q0, q1, q2)).1, .int .i64 (nxR k (a, b, c) (q0, q1, q2)).2.1, .int .i64 (nxR k (a, b, c) (q0, q1, q2)).2.2, .int .i64 (nxR k (a, b, c) (q3, q4, q5)).1, .int .i64 (nxR k (a, b, c) (q3, q4, q5)).2.1, .int .i64 (nxR k (a, b, c) (q3, q4, q5)).2.2, .int .i64 (nxR k (a, b, c) (q6, q7, q8)).1, .int .i64 (nxR k (a, b, c) (q6, q7, q8)).2.1, .int .i64 (nxR k (a, b, c) (q6, q7, q8)).2.2] := by
  have hl : lt3 (od (rSub k a b c).1 (rSub k a b c).2.1 (rSub k a b c).2.2) := od_lt _ _ _
  unfold nxR rwN at3
  simp only
  generalize od (rSub k a b c).1 (rSub k a b c).2.1 (rSub k a b c).2.2 = s at *
  have e : ∀ c, c < 9 → prd (nine q0 q1 q2 q3 q4 q5 q6 q7 q8) (nine (mtF (ownF k) s 0) (mtF (ownF k) s 1) (mtF (ownF k) s 2) (mtF (ownF k) s 3) (mtF (ownF k) s 4) (mtF (ownF k) s 5) (mtF (ownF k) s 6) (mtF (ownF k) s 7) (mtF (ownF k) s 8)) c = prd (nine q0 q1 q2 q3 q4 q5 q6 q7 q8) (mtF (ownF k) s) c := fun c hc => prd_congr (fun d hd => nine_F _ hd) hc
  unfold ag9
  rw [e 0 (by omega), e 1 (by omega), e 2 (by omega), e 3 (by omega), e 4 (by omega), e 5 (by omega), e 6 (by omega), e 7 (by omega), e 8 (by omega)]
  have h0 := prd_mt (nine q0 q1 q2 q3 q4 q5 q6 q7 q8) hk hl (i := 0) (j := 0) (by omega)
  have h1 := prd_mt (nine q0 q1 q2 q3 q4 q5 q6 q7 q8) hk hl (i := 0) (j := 1) (by omega)
  have h2 := prd_mt (nine q0 q1 q2 q3 q4 q5 q6 q7 q8) hk hl (i := 0) (j := 2) (by omega)
  have h3 := prd_mt (nine q0 q1 q2 q3 q4 q5 q6 q7 q8) hk hl (i := 1) (j := 0) (by omega)
  have h4 := prd_mt (nine q0 q1 q2 q3 q4 q5 q6 q7 q8) hk hl (i := 1) (j := 1) (by omega)
  have h5 := prd_mt (nine q0 q1 q2 q3 q4 q5 q6 q7 q8) hk hl (i := 1) (j := 2) (by omega)
  have h6 := prd_mt (nine q0 q1 q2 q3 q4 q5 q6 q7 q8) hk hl (i := 2) (j := 0) (by omega)
  have h7 := prd_mt (nine q0 q1 q2 q3 q4 q5 q6 q7 q8) hk hl (i := 2) (j := 1) (by omega)
  have h8 := prd_mt (nine q0 q1 q2 q3 q4 q5 q6 q7 q8) hk hl (i := 2) (j := 2) (by omega)
  simp only [Nat.zero_mul, Nat.zero_add, Nat.one_mul, Nat.reduceMul, Nat.reduceAdd, Nat.add_zero, plc, nine] at h0 h1 h2 h3 h4 h5 h6 h7 h8
  rw [h0, h1, h2, h3, h4, h5, h6, h7, h8]
theorem fit9_S (a b c q0 q1 q2 q3 q4 q5 q6 q7 q8 : Int) : fit9 (nine q0 q1 q2 q3 q4 q5 q6 q7 q8) = fitS ((a, b, c), (q0, q1, q2), (q3, q4, q5), (q6, q7, q8)) := by
  rw [fit9_nine]
  rfl
theorem fit9_b {q0 q1 q2 q3 q4 q5 q6 q7 q8 : Int} (h : fit9 (nine q0 q1 q2 q3 q4 q5 q6 q7 q8) = true) : ∀ c, c < 9 → 0 ≤ nine q0 q1 q2 q3 q4 q5 q6 q7 q8 c ∧ nine q0 q1 q2 q3 q4 q5 q6 q7 q8 c ≤ 1000000 := fun c hc => wh_iff.1 (fit9_iff.1 h c hc)
theorem mtF_b {k : Nat} (hk : k < 4) {s : Nat × Nat × Nat} (hs : lt3 s) {c : Nat} (hc : c < 9) : 0 ≤ mtF (ownF k) s c ∧ mtF (ownF k) s c ≤ 1000000 := by
  unfold mtF
  have := plc_lt hs (c % 3)
  have h := ownF_b hk (c := c / 3 * 3 + plc s (c % 3)) (by omega)
  omega
/-- What both answer. -/
def mrS (a b c r n : Int) : Stn := lastF s00 (runL r.toNat n.toNat (s0S (a, b, c)))
def mrK (a b c r n : Int) : Int := if rcd a b c r n = 0 then (if fitS (mrS a b c r n) = true then 0 else 3) else rcd a b c r n
def mrV (a b c r n : Int) : Value := if mrK a b c r n = 0 then .agg #[.int .i64 (mrS a b c r n).2.1.1, .int .i64 (mrS a b c r n).2.1.2.1, .int .i64 (mrS a b c r n).2.1.2.2, .int .i64 (mrS a b c r n).2.2.1.1, .int .i64 (mrS a b c r n).2.2.1.2.1, .int .i64 (mrS a b c r n).2.2.1.2.2, .int .i64 (mrS a b c r n).2.2.2.1, .int .i64 (mrS a b c r n).2.2.2.2.1, .int .i64 (mrS a b c r n).2.2.2.2.2] else .agg #[.int .i64 0, .int .i64 0, .int .i64 0, .int .i64 0, .int .i64 0, .int .i64 0, .int .i64 0, .int .i64 0, .int .i64 0]
set_option maxHeartbeats 6400000 in
theorem impl_MatrixOfRun_any (a b c r n : Int) (w : World) : Calls Try.prog 36 #[.agg #[.int .i64 a, .int .i64 b, .int .i64 c], .int .i64 r, .int .i64 n] w fun e w' => e = .returned (.tuple #[mrV a b c r n, .int .i64 (mrK a b c r n)]) ∧ Below w.heap.size w w' := by
  have HCODE := Lib.hid (fun w => codeOfRun_any a b c r n w)
  rcases rcd_cases a b c r n with ⟨h0, hs, k, m, rfl, hk, rfl, hm⟩ | ⟨h0, h1⟩
  · rw [h0] at HCODE
    have HRUL := Lib.hid (fun w => ruleOf_b k w hk)
    have HLS := Lib.hid (fun w => lastStation_any k hk m hm a b c hs w)
    obtain ⟨⟨⟨x0, x1, x2⟩, ⟨x3, x4, x5⟩, ⟨x6, x7, x8⟩, ⟨x9, x10, x11⟩⟩, hL⟩ : ∃ L, lastF s00 (runL k m (s0S (a, b, c))) = L := ⟨_, rfl⟩
    have hM : mrS a b c (k : Int) (m : Int) = ((x0, x1, x2), (x3, x4, x5), (x6, x7, x8), (x9, x10, x11)) := hL
    rw [hL] at HLS
    have HLS : Hid (∀ w, Calls Try.prog 62 #[.agg #[.int .i64 a, .int .i64 b, .int .i64 c], .iface (rt k) (.agg #[]), .int .i64 (m : Int)] w fun e w' => e = .returned (.agg #[.int .i64 x0, .int .i64 x1, .int .i64 x2, .int .i64 x3, .int .i64 x4, .int .i64 x5, .int .i64 x6, .int .i64 x7, .int .i64 x8, .int .i64 x9, .int .i64 x10, .int .i64 x11]) ∧ Below w.heap.size w w') := HLS
    obtain ⟨TT, hT⟩ : ∃ TT, rt k = TT := ⟨_, rfl⟩
    rw [hT] at HRUL HLS
    have hfld : ∀ W : World, (Instr.field 69 (.agg #[.int .i64 x0, .int .i64 x1, .int .i64 x2, .int .i64 x3, .int .i64 x4, .int .i64 x5, .int .i64 x6, .int .i64 x7, .int .i64 x8, .int .i64 x9, .int .i64 x10, .int .i64 x11]) 1).run Try.prog W = .ok (.agg #[.int .i64 x3, .int .i64 x4, .int .i64 x5, .int .i64 x6, .int .i64 x7, .int .i64 x8, .int .i64 x9, .int .i64 x10, .int .i64 x11]) W := fun _ => by kernel_rfl
    have HSQ := Lib.hid (fun w => isSquare_any x3 x4 x5 x6 x7 x8 x9 x10 x11 w)
    rw [fit9_S x0 x1 x2] at HSQ
    cases hf : fitS ((x0, x1, x2), (x3, x4, x5), (x6, x7, x8), (x9, x10, x11))
    · have e1 : mrK a b c (k : Int) (m : Int) = 3 := by unfold mrK; rw [if_pos h0, hM, hf]; rfl
      have e2 : mrV a b c (k : Int) (m : Int) = .agg #[.int .i64 0, .int .i64 0, .int .i64 0, .int .i64 0, .int .i64 0, .int .i64 0, .int .i64 0, .int .i64 0, .int .i64 0] := by unfold mrV; rw [if_neg (by rw [e1]; decide)]
      rw [e1, e2]
      rw [hf] at HSQ
      clear hL hM hT hs hk h0 hm hf e1 e2
      obtain ⟨GT, hG⟩ : ∃ G, w.heap.size = G := ⟨_, rfl⟩
      have HG := Lib.hid hG
      go_enter Try.func36, Try.ntmps36
      go_upto_region 1 with fail
      obtain ⟨w0, hw0⟩ : ∃ w0, w0 = ((w.alloc (.cells #[.int .i64 a, .int .i64 b, .int .i64 c] 24)).alloc (.cells #[.int .i64 0, .int .i64 0, .int .i64 0, .int .i64 0, .int .i64 0, .int .i64 0, .int .i64 0, .int .i64 0, .int .i64 0] 43)) := ⟨_, rfl⟩
      rw [← hw0]
      have HT : Hid (Bk3 w0 GT a b c) := by
        have h := (bk3_new w a b c 24).below (W' := ((w.alloc (.cells #[.int .i64 a, .int .i64 b, .int .i64 c] 24)).alloc (.cells #[.int .i64 0, .int .i64 0, .int .i64 0, .int .i64 0, .int .i64 0, .int .i64 0, .int .i64 0, .int .i64 0, .int .i64 0] 43))) (by (repeat' (first | (with_reducible exact Below.refl _ _) | (with_reducible refine Below.alloc ?_ ?_ _) | (with_reducible refine Below.setCell ?_ ?_ _) | (with_reducible refine Below.drew ?_) | (with_reducible refine below_drewN ?_ _) | (with_reducible assumption) | (with_reducible refine below_after (by with_reducible assumption) ?_) | go_size)))
        (try simp only [World.size_alloc] at h)
        rw [hG] at h
        rw [hw0]; exact h
      have HR : Hid (Bk9 w0 (GT + 1) 0 0 0 0 0 0 0 0 0) := by
        have h := (bk9_new (w.alloc (.cells #[.int .i64 a, .int .i64 b, .int .i64 c] 24)) 0 0 0 0 0 0 0 0 0 43).below (W' := ((w.alloc (.cells #[.int .i64 a, .int .i64 b, .int .i64 c] 24)).alloc (.cells #[.int .i64 0, .int .i64 0, .int .i64 0, .int .i64 0, .int .i64 0, .int .i64 0, .int .i64 0, .int .i64 0, .int .i64 0] 43))) (by (repeat' (first | (with_reducible exact Below.refl _ _) | (with_reducible refine Below.alloc ?_ ?_ _) | (with_reducible refine Below.setCell ?_ ?_ _) | (with_reducible refine Below.drew ?_) | (with_reducible refine below_drewN ?_ _) | (with_reducible assumption) | (with_reducible refine below_after (by with_reducible assumption) ?_) | go_size)))
        (try simp only [World.size_alloc] at h)
        rw [hG] at h
        rw [hw0]; exact h
      have HB : Hid (Below w.heap.size w w0) := by show Below w.heap.size w w0; rw [hw0]; (repeat' (first | (with_reducible exact Below.refl _ _) | (with_reducible refine Below.alloc ?_ ?_ _) | (with_reducible refine Below.setCell ?_ ?_ _) | (with_reducible refine Below.drew ?_) | (with_reducible refine below_drewN ?_ _) | (with_reducible assumption) | (with_reducible refine below_after (by with_reducible assumption) ?_) | go_size))
      clear hw0
      obtain ⟨GR, hGR⟩ : ∃ g, GT + 1 = g := ⟨_, rfl⟩
      rw [hGR] at HR ⊢
      have le_T : w.heap.size ≤ GT := by omega
      have le_R : w.heap.size ≤ GR := by omega
      have ne_R_T : GR ≠ GT := by omega
      have ne_T_R : GT ≠ GR := by omega
      clear hGR
      obtain ⟨⟨qT0, qT1, qT2⟩, ⟨fT0, fT1, fT2⟩, zT⟩ := HT.out
      obtain ⟨⟨qR0, qR1, qR2, qR3, qR4, qR5, qR6, qR7, qR8⟩, ⟨fR0, fR1, fR2, fR3, fR4, fR5, fR6, fR7, fR8⟩, zR⟩ := HR.out
      go_wp2_with fail
      go_at_call 61
      refine (HCODE.out _).mono ?_
      rintro e w1 ⟨rfl, hb⟩
      clear qT0 fT0 qT1 fT1 qT2 fT2 zT qR0 fR0 qR1 fR1 qR2 fR2 qR3 fR3 qR4 fR4 qR5 fR5 qR6 fR6 qR7 fR7 qR8 fR8 zR
      have HT := Lib.hid (HT.out.below hb)
      have HR := Lib.hid (HR.out.below hb)
      have HB := Lib.hid (below_after hb HB.out)
      clear hb
      go_wp2_with fail
      refine wp_region_held_drew (S := fun W => Below w.heap.size w W ∧ Bk3 W GT a b c ∧ Bk9 W GR 0 0 0 0 0 0 0 0 0) (by kernel_rfl) ?_ (fun hHeld => ?_); focus ((try dsimp only); exact ⟨Below.drew HB.out, HT.out.below (Below.drew (Below.refl _ _)), HR.out.below (Below.drew (Below.refl _ _))⟩)
      have HT := Lib.hid (HT.out.below (Below.drew (Below.refl _ _)))
      have HR := Lib.hid (HR.out.below (Below.drew (Below.refl _ _)))
      have hHeld : (fun W => Below w.heap.size w W ∧ Bk3 W GT a b c ∧ Bk9 W GR 0 0 0 0 0 0 0 0 0) _ := hHeld
      obtain ⟨wD1, hwD1⟩ : ∃ wD, w1.drew = wD := ⟨_, rfl⟩
      rw [hwD1] at hHeld HT HR ⊢
      clear hwD1
      (refine wpAnyH_take (i := 0) (v := ?_) rfl (by kernel_rfl) (by kernel_rfl) (by kernel_rfl) (fun _ _ _ h => h) (Or.inl ⟨rfl, ?_⟩) (by assumption) ?_; rotate_left; focus (intro W hSw; (try dsimp only at hSw); obtain ⟨hSb, hxT, hxR⟩ := hSw; obtain ⟨⟨iT0, iT1, iT2⟩, _, _⟩ := hxT; obtain ⟨⟨iR0, iR1, iR2, iR3, iR4, iR5, iR6, iR7, iR8⟩, _, _⟩ := hxR; go_simp; try (with_reducible rfl))); (try simp only [Act.put, List.getElem_toArray, List.getElem_cons_succ, List.getElem_cons_zero, List.setIfInBounds_toArray, List.set_cons_zero, List.set_cons_succ])
      (refine wpAnyH_take (i := 1) (v := ?_) rfl (by kernel_rfl) (by kernel_rfl) (by kernel_rfl) (fun _ _ _ h => h) (Or.inl ⟨rfl, ?_⟩) (by assumption) ?_; rotate_left; focus (intro W hSw; (try dsimp only at hSw); obtain ⟨hSb, hxT, hxR⟩ := hSw; obtain ⟨⟨iT0, iT1, iT2⟩, _, _⟩ := hxT; obtain ⟨⟨iR0, iR1, iR2, iR3, iR4, iR5, iR6, iR7, iR8⟩, _, _⟩ := hxR; go_simp; try (with_reducible rfl))); (try simp only [Act.put, List.getElem_toArray, List.getElem_cons_succ, List.getElem_cons_zero, List.setIfInBounds_toArray, List.set_cons_zero, List.set_cons_succ])
      (refine wpAnyH_take (i := 3) (v := ?_) rfl (by kernel_rfl) (by kernel_rfl) (by kernel_rfl) (fun _ _ _ h => h) (Or.inl ⟨rfl, ?_⟩) (by assumption) ?_; rotate_left; focus (intro W hSw; (try dsimp only at hSw); obtain ⟨hSb, hxT, hxR⟩ := hSw; obtain ⟨⟨iT0, iT1, iT2⟩, _, _⟩ := hxT; obtain ⟨⟨iR0, iR1, iR2, iR3, iR4, iR5, iR6, iR7, iR8⟩, _, _⟩ := hxR; go_simp; try (with_reducible rfl))); (try simp only [Act.put, List.getElem_toArray, List.getElem_cons_succ, List.getElem_cons_zero, List.setIfInBounds_toArray, List.set_cons_zero, List.set_cons_succ])
      refine wpAnyH_ready (rs := [2, 6]) (by kernel_rfl) (by simp) ?_; refine AllReadyH.cons rfl (fun K hK => ?_) (AllReadyH.cons rfl (fun K hK => ?_) AllReadyH.nil)
      · skip
        go_simp; (go_at_call 63; refine (HRUL.out _).mono ?_; rintro en ywr1x0 ⟨rfl, hb2⟩); have HT := Lib.hid (HT.out.below hb2); have HR := Lib.hid (HR.out.below hb2); refine hK.out _ _ ⟨below_after hb2 hHeld.1, HT.out, HR.out⟩ (fun hHeld2 => ?_); clear hb2; (clear hHeld; rename _ => hHeld; clear hK K; have hHeld : (fun W => Below w.heap.size w W ∧ Bk3 W GT a b c ∧ Bk9 W GR 0 0 0 0 0 0 0 0 0) _ := hHeld); (try simp only [Act.put, List.getElem_toArray, List.getElem_cons_succ, List.getElem_cons_zero, List.setIfInBounds_toArray, List.set_cons_zero, List.set_cons_succ])
        refine wpAnyH_ready (rs := [4, 6]) (by kernel_rfl) (by simp) ?_; refine AllReadyH.cons rfl (fun K hK => ?_) (AllReadyH.cons rfl (fun K hK => ?_) AllReadyH.nil)
        · skip
          go_simp; (go_at_call 62; refine (HLS.out _).mono ?_; rintro en ywr1x1 ⟨rfl, hb2⟩); have HT := Lib.hid (HT.out.below hb2); have HR := Lib.hid (HR.out.below hb2); refine hK.out _ _ ⟨below_after hb2 hHeld.1, HT.out, HR.out⟩ (fun hHeld2 => ?_); clear hb2; (clear hHeld; rename _ => hHeld; clear hK K; have hHeld : (fun W => Below w.heap.size w W ∧ Bk3 W GT a b c ∧ Bk9 W GR 0 0 0 0 0 0 0 0 0) _ := hHeld); (try simp only [Act.put, List.getElem_toArray, List.getElem_cons_succ, List.getElem_cons_zero, List.setIfInBounds_toArray, List.set_cons_zero, List.set_cons_succ])
          (refine wpAnyH_take (i := 5) (v := ?_) rfl (by kernel_rfl) (by kernel_rfl) (by kernel_rfl) (fun _ _ _ h => h) (Or.inl ⟨rfl, ?_⟩) (by assumption) ?_; rotate_left; focus (intro W hSw; (try dsimp only at hSw); obtain ⟨hSb, hxT, hxR⟩ := hSw; obtain ⟨⟨iT0, iT1, iT2⟩, _, _⟩ := hxT; obtain ⟨⟨iR0, iR1, iR2, iR3, iR4, iR5, iR6, iR7, iR8⟩, _, _⟩ := hxR; go_simp; try (with_reducible rfl))); (try simp only [Act.put, List.getElem_toArray, List.getElem_cons_succ, List.getElem_cons_zero, List.setIfInBounds_toArray, List.set_cons_zero, List.set_cons_succ])
          refine wpAnyH_ready (rs := [6]) (by kernel_rfl) (by simp) ?_; refine AllReadyH.cons rfl (fun K hK => ?_) AllReadyH.nil
          go_simp; obtain ⟨GQ, hGQ⟩ : ∃ G, ywr1x1.heap.size = G := ⟨_, rfl⟩; have le_Q : w.heap.size ≤ GQ := by rw [← hGQ]; exact Below.size hHeld.1
          have ne_Q_T : GQ ≠ GT := by have := HT.out.2.2; omega
          have ne_T_Q : GT ≠ GQ := Ne.symm ne_Q_T
          have ne_Q_R : GQ ≠ GR := by have := HR.out.2.2; omega
          have ne_R_Q : GR ≠ GQ := Ne.symm ne_Q_R
          have HT := Lib.hid (HT.out.below ((Below.refl _ _).alloc (Nat.le_refl _) (.cells #[.int .i64 0, .int .i64 0, .int .i64 0, .int .i64 0, .int .i64 0, .int .i64 0, .int .i64 0, .int .i64 0, .int .i64 0] 43))); have HR := Lib.hid (HR.out.below ((Below.refl _ _).alloc (Nat.le_refl _) (.cells #[.int .i64 0, .int .i64 0, .int .i64 0, .int .i64 0, .int .i64 0, .int .i64 0, .int .i64 0, .int .i64 0, .int .i64 0] 43))); skip
          have HQ : Hid (Bk9 (ywr1x1.alloc (.cells #[.int .i64 0, .int .i64 0, .int .i64 0, .int .i64 0, .int .i64 0, .int .i64 0, .int .i64 0, .int .i64 0, .int .i64 0] 43)) GQ 0 0 0 0 0 0 0 0 0) := by rw [← hGQ]; exact bk9_new ywr1x1 0 0 0 0 0 0 0 0 0 _
          refine hK.out _ _ ⟨Below.alloc hHeld.1 (Below.size hHeld.1) _, HT.out, HR.out⟩ (fun hHeld2 => ?_); (clear hHeld; rename _ => hHeld; clear hK K; have hHeld : (fun W => Below w.heap.size w W ∧ Bk3 W GT a b c ∧ Bk9 W GR 0 0 0 0 0 0 0 0 0) _ := hHeld); (try simp only [Act.put, List.getElem_toArray, List.getElem_cons_succ, List.getElem_cons_zero, List.setIfInBounds_toArray, List.set_cons_zero, List.set_cons_succ])
          rw [hGQ]; clear hGQ; obtain ⟨ywr1x2, hwx⟩ : ∃ wx, ywr1x1.alloc (.cells #[.int .i64 0, .int .i64 0, .int .i64 0, .int .i64 0, .int .i64 0, .int .i64 0, .int .i64 0, .int .i64 0, .int .i64 0] 43) = wx := ⟨_, rfl⟩; rw [hwx] at HT HR HQ hHeld ⊢; clear hwx
          refine wpAnyH_ready (rs := [7]) (by kernel_rfl) (by simp) ?_; refine AllReadyH.cons rfl (fun K hK => ?_) AllReadyH.nil
          obtain ⟨⟨a0, a1, a2, a3, a4, a5, a6, a7, a8⟩, ⟨f0, f1, f2, f3, f4, f5, f6, f7, f8⟩, az⟩ := HQ.out; go_simp; clear a0 f0 a1 f1 a2 f2 a3 f3 a4 f4 a5 f5 a6 f6 a7 f7 a8 f8 az
          have HT := Lib.hid (((((((((HT.out.far ⟨GQ, 0, none⟩ (.int .i64 x3) (by show GT ≠ GQ; exact ne_T_Q)).far ⟨GQ, 1, none⟩ (.int .i64 x4) (by show GT ≠ GQ; exact ne_T_Q)).far ⟨GQ, 2, none⟩ (.int .i64 x5) (by show GT ≠ GQ; exact ne_T_Q)).far ⟨GQ, 3, none⟩ (.int .i64 x6) (by show GT ≠ GQ; exact ne_T_Q)).far ⟨GQ, 4, none⟩ (.int .i64 x7) (by show GT ≠ GQ; exact ne_T_Q)).far ⟨GQ, 5, none⟩ (.int .i64 x8) (by show GT ≠ GQ; exact ne_T_Q)).far ⟨GQ, 6, none⟩ (.int .i64 x9) (by show GT ≠ GQ; exact ne_T_Q)).far ⟨GQ, 7, none⟩ (.int .i64 x10) (by show GT ≠ GQ; exact ne_T_Q)).far ⟨GQ, 8, none⟩ (.int .i64 x11) (by show GT ≠ GQ; exact ne_T_Q))
          have HR := Lib.hid (((((((((HR.out.far ⟨GQ, 0, none⟩ (.int .i64 x3) (by show GR ≠ GQ; exact ne_R_Q)).far ⟨GQ, 1, none⟩ (.int .i64 x4) (by show GR ≠ GQ; exact ne_R_Q)).far ⟨GQ, 2, none⟩ (.int .i64 x5) (by show GR ≠ GQ; exact ne_R_Q)).far ⟨GQ, 3, none⟩ (.int .i64 x6) (by show GR ≠ GQ; exact ne_R_Q)).far ⟨GQ, 4, none⟩ (.int .i64 x7) (by show GR ≠ GQ; exact ne_R_Q)).far ⟨GQ, 5, none⟩ (.int .i64 x8) (by show GR ≠ GQ; exact ne_R_Q)).far ⟨GQ, 6, none⟩ (.int .i64 x9) (by show GR ≠ GQ; exact ne_R_Q)).far ⟨GQ, 7, none⟩ (.int .i64 x10) (by show GR ≠ GQ; exact ne_R_Q)).far ⟨GQ, 8, none⟩ (.int .i64 x11) (by show GR ≠ GQ; exact ne_R_Q))
          have HQ := Lib.hid (((((((((HQ.out.set0 x3).set1 x4).set2 x5).set3 x6).set4 x7).set5 x8).set6 x9).set7 x10).set8 x11)
          refine hK.out _ _ ⟨(Below.setCell (Below.setCell (Below.setCell (Below.setCell (Below.setCell (Below.setCell (Below.setCell (Below.setCell (Below.setCell hHeld.1 (p := ⟨GQ, 0, none⟩) le_Q _) (p := ⟨GQ, 1, none⟩) le_Q _) (p := ⟨GQ, 2, none⟩) le_Q _) (p := ⟨GQ, 3, none⟩) le_Q _) (p := ⟨GQ, 4, none⟩) le_Q _) (p := ⟨GQ, 5, none⟩) le_Q _) (p := ⟨GQ, 6, none⟩) le_Q _) (p := ⟨GQ, 7, none⟩) le_Q _) (p := ⟨GQ, 8, none⟩) le_Q _), HT.out, HR.out⟩ (fun hHeld2 => ?_); (clear hHeld; rename _ => hHeld; clear hK K; have hHeld : (fun W => Below w.heap.size w W ∧ Bk3 W GT a b c ∧ Bk9 W GR 0 0 0 0 0 0 0 0 0) _ := hHeld); (try simp only [Act.put, List.getElem_toArray, List.getElem_cons_succ, List.getElem_cons_zero, List.setIfInBounds_toArray, List.set_cons_zero, List.set_cons_succ])
          obtain ⟨ywr1x3, hwx⟩ : ∃ wx, ((((((((ywr1x2.setCell ⟨GQ, 0, none⟩ (.int .i64 x3)).setCell ⟨GQ, 1, none⟩ (.int .i64 x4)).setCell ⟨GQ, 2, none⟩ (.int .i64 x5)).setCell ⟨GQ, 3, none⟩ (.int .i64 x6)).setCell ⟨GQ, 4, none⟩ (.int .i64 x7)).setCell ⟨GQ, 5, none⟩ (.int .i64 x8)).setCell ⟨GQ, 6, none⟩ (.int .i64 x9)).setCell ⟨GQ, 7, none⟩ (.int .i64 x10)).setCell ⟨GQ, 8, none⟩ (.int .i64 x11) = wx := ⟨_, rfl⟩; rw [hwx] at HT HR HQ hHeld ⊢; clear hwx
          refine wpAnyH_done (by kernel_rfl) ?_ _
          have HB := Lib.hid (hHeld.1)
          clear hHeld
          clear HT
          obtain ⟨⟨qR0, qR1, qR2, qR3, qR4, qR5, qR6, qR7, qR8⟩, ⟨fR0, fR1, fR2, fR3, fR4, fR5, fR6, fR7, fR8⟩, zR⟩ := HR.out
          obtain ⟨⟨qQ0, qQ1, qQ2, qQ3, qQ4, qQ5, qQ6, qQ7, qQ8⟩, ⟨fQ0, fQ1, fQ2, fQ3, fQ4, fQ5, fQ6, fQ7, fQ8⟩, zQ⟩ := HQ.out
          go_wp2_with fail
          go_at_call 72
          refine (HSQ.out _).mono ?_
          rintro e w52 ⟨rfl, hb⟩
          clear qR0 fR0 qR1 fR1 qR2 fR2 qR3 fR3 qR4 fR4 qR5 fR5 qR6 fR6 qR7 fR7 qR8 fR8 zR qQ0 fQ0 qQ1 fQ1 qQ2 fQ2 qQ3 fQ3 qQ4 fQ4 qQ5 fQ5 qQ6 fQ6 qQ7 fQ7 qQ8 fQ8 zQ
          have HR := Lib.hid (HR.out.below hb)
          have HQ := Lib.hid (HQ.out.below hb)
          have HB := Lib.hid (below_after hb HB.out)
          clear hb
          obtain ⟨⟨qR0, qR1, qR2, qR3, qR4, qR5, qR6, qR7, qR8⟩, ⟨fR0, fR1, fR2, fR3, fR4, fR5, fR6, fR7, fR8⟩, zR⟩ := HR.out
          obtain ⟨⟨qQ0, qQ1, qQ2, qQ3, qQ4, qQ5, qQ6, qQ7, qQ8⟩, ⟨fQ0, fQ1, fQ2, fQ3, fQ4, fQ5, fQ6, fQ7, fQ8⟩, zQ⟩ := HQ.out
          go_wp2_with fail
          refine bodyPost_ret (v := .tuple #[.agg #[.int .i64 0, .int .i64 0, .int .i64 0, .int .i64 0, .int .i64 0, .int .i64 0, .int .i64 0, .int .i64 0, .int .i64 0], .int .i64 3]) (by simp (maxDischargeDepth := 8) [results, Try.results36, go_sem, *]) rfl ?_
          have hb := HB.out
          exact ⟨rfl, by (repeat' (first | (with_reducible exact Below.refl _ _) | (with_reducible refine Below.alloc ?_ ?_ _) | (with_reducible refine Below.setCell ?_ ?_ _) | (with_reducible refine Below.drew ?_) | (with_reducible refine below_drewN ?_ _) | (with_reducible assumption) | (with_reducible refine below_after (by with_reducible assumption) ?_) | go_size))⟩
        · skip
          go_simp; obtain ⟨GQ, hGQ⟩ : ∃ G, ywr1x0.heap.size = G := ⟨_, rfl⟩; have le_Q : w.heap.size ≤ GQ := by rw [← hGQ]; exact Below.size hHeld.1
          have ne_Q_T : GQ ≠ GT := by have := HT.out.2.2; omega
          have ne_T_Q : GT ≠ GQ := Ne.symm ne_Q_T
          have ne_Q_R : GQ ≠ GR := by have := HR.out.2.2; omega
          have ne_R_Q : GR ≠ GQ := Ne.symm ne_Q_R
          have HT := Lib.hid (HT.out.below ((Below.refl _ _).alloc (Nat.le_refl _) (.cells #[.int .i64 0, .int .i64 0, .int .i64 0, .int .i64 0, .int .i64 0, .int .i64 0, .int .i64 0, .int .i64 0, .int .i64 0] 43))); have HR := Lib.hid (HR.out.below ((Below.refl _ _).alloc (Nat.le_refl _) (.cells #[.int .i64 0, .int .i64 0, .int .i64 0, .int .i64 0, .int .i64 0, .int .i64 0, .int .i64 0, .int .i64 0, .int .i64 0] 43))); skip
          have HQ : Hid (Bk9 (ywr1x0.alloc (.cells #[.int .i64 0, .int .i64 0, .int .i64 0, .int .i64 0, .int .i64 0, .int .i64 0, .int .i64 0, .int .i64 0, .int .i64 0] 43)) GQ 0 0 0 0 0 0 0 0 0) := by rw [← hGQ]; exact bk9_new ywr1x0 0 0 0 0 0 0 0 0 0 _
          refine hK.out _ _ ⟨Below.alloc hHeld.1 (Below.size hHeld.1) _, HT.out, HR.out⟩ (fun hHeld2 => ?_); (clear hHeld; rename _ => hHeld; clear hK K; have hHeld : (fun W => Below w.heap.size w W ∧ Bk3 W GT a b c ∧ Bk9 W GR 0 0 0 0 0 0 0 0 0) _ := hHeld); (try simp only [Act.put, List.getElem_toArray, List.getElem_cons_succ, List.getElem_cons_zero, List.setIfInBounds_toArray, List.set_cons_zero, List.set_cons_succ])
          rw [hGQ]; clear hGQ; obtain ⟨ywr1x1, hwx⟩ : ∃ wx, ywr1x0.alloc (.cells #[.int .i64 0, .int .i64 0, .int .i64 0, .int .i64 0, .int .i64 0, .int .i64 0, .int .i64 0, .int .i64 0, .int .i64 0] 43) = wx := ⟨_, rfl⟩; rw [hwx] at HT HR HQ hHeld ⊢; clear hwx
          refine wpAnyH_ready (rs := [4]) (by kernel_rfl) (by simp) ?_; refine AllReadyH.cons rfl (fun K hK => ?_) AllReadyH.nil
          go_simp; (go_at_call 62; refine (HLS.out _).mono ?_; rintro en ywr1x2 ⟨rfl, hb2⟩); have HT := Lib.hid (HT.out.below hb2); have HR := Lib.hid (HR.out.below hb2); have HQ := Lib.hid (HQ.out.below hb2); refine hK.out _ _ ⟨below_after hb2 hHeld.1, HT.out, HR.out⟩ (fun hHeld2 => ?_); clear hb2; (clear hHeld; rename _ => hHeld; clear hK K; have hHeld : (fun W => Below w.heap.size w W ∧ Bk3 W GT a b c ∧ Bk9 W GR 0 0 0 0 0 0 0 0 0) _ := hHeld); (try simp only [Act.put, List.getElem_toArray, List.getElem_cons_succ, List.getElem_cons_zero, List.setIfInBounds_toArray, List.set_cons_zero, List.set_cons_succ])
          (refine wpAnyH_take (i := 5) (v := ?_) rfl (by kernel_rfl) (by kernel_rfl) (by kernel_rfl) (fun _ _ _ h => h) (Or.inl ⟨rfl, ?_⟩) (by assumption) ?_; rotate_left; focus (intro W hSw; (try dsimp only at hSw); obtain ⟨hSb, hxT, hxR⟩ := hSw; obtain ⟨⟨iT0, iT1, iT2⟩, _, _⟩ := hxT; obtain ⟨⟨iR0, iR1, iR2, iR3, iR4, iR5, iR6, iR7, iR8⟩, _, _⟩ := hxR; go_simp; try (with_reducible rfl))); (try simp only [Act.put, List.getElem_toArray, List.getElem_cons_succ, List.getElem_cons_zero, List.setIfInBounds_toArray, List.set_cons_zero, List.set_cons_succ])
          refine wpAnyH_ready (rs := [7]) (by kernel_rfl) (by simp) ?_; refine AllReadyH.cons rfl (fun K hK => ?_) AllReadyH.nil
          obtain ⟨⟨a0, a1, a2, a3, a4, a5, a6, a7, a8⟩, ⟨f0, f1, f2, f3, f4, f5, f6, f7, f8⟩, az⟩ := HQ.out; go_simp; clear a0 f0 a1 f1 a2 f2 a3 f3 a4 f4 a5 f5 a6 f6 a7 f7 a8 f8 az
          have HT := Lib.hid (((((((((HT.out.far ⟨GQ, 0, none⟩ (.int .i64 x3) (by show GT ≠ GQ; exact ne_T_Q)).far ⟨GQ, 1, none⟩ (.int .i64 x4) (by show GT ≠ GQ; exact ne_T_Q)).far ⟨GQ, 2, none⟩ (.int .i64 x5) (by show GT ≠ GQ; exact ne_T_Q)).far ⟨GQ, 3, none⟩ (.int .i64 x6) (by show GT ≠ GQ; exact ne_T_Q)).far ⟨GQ, 4, none⟩ (.int .i64 x7) (by show GT ≠ GQ; exact ne_T_Q)).far ⟨GQ, 5, none⟩ (.int .i64 x8) (by show GT ≠ GQ; exact ne_T_Q)).far ⟨GQ, 6, none⟩ (.int .i64 x9) (by show GT ≠ GQ; exact ne_T_Q)).far ⟨GQ, 7, none⟩ (.int .i64 x10) (by show GT ≠ GQ; exact ne_T_Q)).far ⟨GQ, 8, none⟩ (.int .i64 x11) (by show GT ≠ GQ; exact ne_T_Q))
          have HR := Lib.hid (((((((((HR.out.far ⟨GQ, 0, none⟩ (.int .i64 x3) (by show GR ≠ GQ; exact ne_R_Q)).far ⟨GQ, 1, none⟩ (.int .i64 x4) (by show GR ≠ GQ; exact ne_R_Q)).far ⟨GQ, 2, none⟩ (.int .i64 x5) (by show GR ≠ GQ; exact ne_R_Q)).far ⟨GQ, 3, none⟩ (.int .i64 x6) (by show GR ≠ GQ; exact ne_R_Q)).far ⟨GQ, 4, none⟩ (.int .i64 x7) (by show GR ≠ GQ; exact ne_R_Q)).far ⟨GQ, 5, none⟩ (.int .i64 x8) (by show GR ≠ GQ; exact ne_R_Q)).far ⟨GQ, 6, none⟩ (.int .i64 x9) (by show GR ≠ GQ; exact ne_R_Q)).far ⟨GQ, 7, none⟩ (.int .i64 x10) (by show GR ≠ GQ; exact ne_R_Q)).far ⟨GQ, 8, none⟩ (.int .i64 x11) (by show GR ≠ GQ; exact ne_R_Q))
          have HQ := Lib.hid (((((((((HQ.out.set0 x3).set1 x4).set2 x5).set3 x6).set4 x7).set5 x8).set6 x9).set7 x10).set8 x11)
          refine hK.out _ _ ⟨(Below.setCell (Below.setCell (Below.setCell (Below.setCell (Below.setCell (Below.setCell (Below.setCell (Below.setCell (Below.setCell hHeld.1 (p := ⟨GQ, 0, none⟩) le_Q _) (p := ⟨GQ, 1, none⟩) le_Q _) (p := ⟨GQ, 2, none⟩) le_Q _) (p := ⟨GQ, 3, none⟩) le_Q _) (p := ⟨GQ, 4, none⟩) le_Q _) (p := ⟨GQ, 5, none⟩) le_Q _) (p := ⟨GQ, 6, none⟩) le_Q _) (p := ⟨GQ, 7, none⟩) le_Q _) (p := ⟨GQ, 8, none⟩) le_Q _), HT.out, HR.out⟩ (fun hHeld2 => ?_); (clear hHeld; rename _ => hHeld; clear hK K; have hHeld : (fun W => Below w.heap.size w W ∧ Bk3 W GT a b c ∧ Bk9 W GR 0 0 0 0 0 0 0 0 0) _ := hHeld); (try simp only [Act.put, List.getElem_toArray, List.getElem_cons_succ, List.getElem_cons_zero, List.setIfInBounds_toArray, List.set_cons_zero, List.set_cons_succ])
          obtain ⟨ywr1x3, hwx⟩ : ∃ wx, ((((((((ywr1x2.setCell ⟨GQ, 0, none⟩ (.int .i64 x3)).setCell ⟨GQ, 1, none⟩ (.int .i64 x4)).setCell ⟨GQ, 2, none⟩ (.int .i64 x5)).setCell ⟨GQ, 3, none⟩ (.int .i64 x6)).setCell ⟨GQ, 4, none⟩ (.int .i64 x7)).setCell ⟨GQ, 5, none⟩ (.int .i64 x8)).setCell ⟨GQ, 6, none⟩ (.int .i64 x9)).setCell ⟨GQ, 7, none⟩ (.int .i64 x10)).setCell ⟨GQ, 8, none⟩ (.int .i64 x11) = wx := ⟨_, rfl⟩; rw [hwx] at HT HR HQ hHeld ⊢; clear hwx
          refine wpAnyH_done (by kernel_rfl) ?_ _
          have HB := Lib.hid (hHeld.1)
          clear hHeld
          clear HT
          obtain ⟨⟨qR0, qR1, qR2, qR3, qR4, qR5, qR6, qR7, qR8⟩, ⟨fR0, fR1, fR2, fR3, fR4, fR5, fR6, fR7, fR8⟩, zR⟩ := HR.out
          obtain ⟨⟨qQ0, qQ1, qQ2, qQ3, qQ4, qQ5, qQ6, qQ7, qQ8⟩, ⟨fQ0, fQ1, fQ2, fQ3, fQ4, fQ5, fQ6, fQ7, fQ8⟩, zQ⟩ := HQ.out
          go_wp2_with fail
          go_at_call 72
          refine (HSQ.out _).mono ?_
          rintro e w52 ⟨rfl, hb⟩
          clear qR0 fR0 qR1 fR1 qR2 fR2 qR3 fR3 qR4 fR4 qR5 fR5 qR6 fR6 qR7 fR7 qR8 fR8 zR qQ0 fQ0 qQ1 fQ1 qQ2 fQ2 qQ3 fQ3 qQ4 fQ4 qQ5 fQ5 qQ6 fQ6 qQ7 fQ7 qQ8 fQ8 zQ
          have HR := Lib.hid (HR.out.below hb)
          have HQ := Lib.hid (HQ.out.below hb)
          have HB := Lib.hid (below_after hb HB.out)
          clear hb
          obtain ⟨⟨qR0, qR1, qR2, qR3, qR4, qR5, qR6, qR7, qR8⟩, ⟨fR0, fR1, fR2, fR3, fR4, fR5, fR6, fR7, fR8⟩, zR⟩ := HR.out
          obtain ⟨⟨qQ0, qQ1, qQ2, qQ3, qQ4, qQ5, qQ6, qQ7, qQ8⟩, ⟨fQ0, fQ1, fQ2, fQ3, fQ4, fQ5, fQ6, fQ7, fQ8⟩, zQ⟩ := HQ.out
          go_wp2_with fail
          refine bodyPost_ret (v := .tuple #[.agg #[.int .i64 0, .int .i64 0, .int .i64 0, .int .i64 0, .int .i64 0, .int .i64 0, .int .i64 0, .int .i64 0, .int .i64 0], .int .i64 3]) (by simp (maxDischargeDepth := 8) [results, Try.results36, go_sem, *]) rfl ?_
          have hb := HB.out
          exact ⟨rfl, by (repeat' (first | (with_reducible exact Below.refl _ _) | (with_reducible refine Below.alloc ?_ ?_ _) | (with_reducible refine Below.setCell ?_ ?_ _) | (with_reducible refine Below.drew ?_) | (with_reducible refine below_drewN ?_ _) | (with_reducible assumption) | (with_reducible refine below_after (by with_reducible assumption) ?_) | go_size))⟩
      · skip
        go_simp; obtain ⟨GQ, hGQ⟩ : ∃ G, wD1.heap.size = G := ⟨_, rfl⟩; have le_Q : w.heap.size ≤ GQ := by rw [← hGQ]; exact Below.size hHeld.1
        have ne_Q_T : GQ ≠ GT := by have := HT.out.2.2; omega
        have ne_T_Q : GT ≠ GQ := Ne.symm ne_Q_T
        have ne_Q_R : GQ ≠ GR := by have := HR.out.2.2; omega
        have ne_R_Q : GR ≠ GQ := Ne.symm ne_Q_R
        have HT := Lib.hid (HT.out.below ((Below.refl _ _).alloc (Nat.le_refl _) (.cells #[.int .i64 0, .int .i64 0, .int .i64 0, .int .i64 0, .int .i64 0, .int .i64 0, .int .i64 0, .int .i64 0, .int .i64 0] 43))); have HR := Lib.hid (HR.out.below ((Below.refl _ _).alloc (Nat.le_refl _) (.cells #[.int .i64 0, .int .i64 0, .int .i64 0, .int .i64 0, .int .i64 0, .int .i64 0, .int .i64 0, .int .i64 0, .int .i64 0] 43))); skip
        have HQ : Hid (Bk9 (wD1.alloc (.cells #[.int .i64 0, .int .i64 0, .int .i64 0, .int .i64 0, .int .i64 0, .int .i64 0, .int .i64 0, .int .i64 0, .int .i64 0] 43)) GQ 0 0 0 0 0 0 0 0 0) := by rw [← hGQ]; exact bk9_new wD1 0 0 0 0 0 0 0 0 0 _
        refine hK.out _ _ ⟨Below.alloc hHeld.1 (Below.size hHeld.1) _, HT.out, HR.out⟩ (fun hHeld2 => ?_); (clear hHeld; rename _ => hHeld; clear hK K; have hHeld : (fun W => Below w.heap.size w W ∧ Bk3 W GT a b c ∧ Bk9 W GR 0 0 0 0 0 0 0 0 0) _ := hHeld); (try simp only [Act.put, List.getElem_toArray, List.getElem_cons_succ, List.getElem_cons_zero, List.setIfInBounds_toArray, List.set_cons_zero, List.set_cons_succ])
        rw [hGQ]; clear hGQ; obtain ⟨ywr1x0, hwx⟩ : ∃ wx, wD1.alloc (.cells #[.int .i64 0, .int .i64 0, .int .i64 0, .int .i64 0, .int .i64 0, .int .i64 0, .int .i64 0, .int .i64 0, .int .i64 0] 43) = wx := ⟨_, rfl⟩; rw [hwx] at HT HR HQ hHeld ⊢; clear hwx
        refine wpAnyH_ready (rs := [2]) (by kernel_rfl) (by simp) ?_; refine AllReadyH.cons rfl (fun K hK => ?_) AllReadyH.nil
        go_simp; (go_at_call 63; refine (HRUL.out _).mono ?_; rintro en ywr1x1 ⟨rfl, hb2⟩); have HT := Lib.hid (HT.out.below hb2); have HR := Lib.hid (HR.out.below hb2); have HQ := Lib.hid (HQ.out.below hb2); refine hK.out _ _ ⟨below_after hb2 hHeld.1, HT.out, HR.out⟩ (fun hHeld2 => ?_); clear hb2; (clear hHeld; rename _ => hHeld; clear hK K; have hHeld : (fun W => Below w.heap.size w W ∧ Bk3 W GT a b c ∧ Bk9 W GR 0 0 0 0 0 0 0 0 0) _ := hHeld); (try simp only [Act.put, List.getElem_toArray, List.getElem_cons_succ, List.getElem_cons_zero, List.setIfInBounds_toArray, List.set_cons_zero, List.set_cons_succ])
        refine wpAnyH_ready (rs := [4]) (by kernel_rfl) (by simp) ?_; refine AllReadyH.cons rfl (fun K hK => ?_) AllReadyH.nil
        go_simp; (go_at_call 62; refine (HLS.out _).mono ?_; rintro en ywr1x2 ⟨rfl, hb2⟩); have HT := Lib.hid (HT.out.below hb2); have HR := Lib.hid (HR.out.below hb2); have HQ := Lib.hid (HQ.out.below hb2); refine hK.out _ _ ⟨below_after hb2 hHeld.1, HT.out, HR.out⟩ (fun hHeld2 => ?_); clear hb2; (clear hHeld; rename _ => hHeld; clear hK K; have hHeld : (fun W => Below w.heap.size w W ∧ Bk3 W GT a b c ∧ Bk9 W GR 0 0 0 0 0 0 0 0 0) _ := hHeld); (try simp only [Act.put, List.getElem_toArray, List.getElem_cons_succ, List.getElem_cons_zero, List.setIfInBounds_toArray, List.set_cons_zero, List.set_cons_succ])
        (refine wpAnyH_take (i := 5) (v := ?_) rfl (by kernel_rfl) (by kernel_rfl) (by kernel_rfl) (fun _ _ _ h => h) (Or.inl ⟨rfl, ?_⟩) (by assumption) ?_; rotate_left; focus (intro W hSw; (try dsimp only at hSw); obtain ⟨hSb, hxT, hxR⟩ := hSw; obtain ⟨⟨iT0, iT1, iT2⟩, _, _⟩ := hxT; obtain ⟨⟨iR0, iR1, iR2, iR3, iR4, iR5, iR6, iR7, iR8⟩, _, _⟩ := hxR; go_simp; try (with_reducible rfl))); (try simp only [Act.put, List.getElem_toArray, List.getElem_cons_succ, List.getElem_cons_zero, List.setIfInBounds_toArray, List.set_cons_zero, List.set_cons_succ])
        refine wpAnyH_ready (rs := [7]) (by kernel_rfl) (by simp) ?_; refine AllReadyH.cons rfl (fun K hK => ?_) AllReadyH.nil
        obtain ⟨⟨a0, a1, a2, a3, a4, a5, a6, a7, a8⟩, ⟨f0, f1, f2, f3, f4, f5, f6, f7, f8⟩, az⟩ := HQ.out; go_simp; clear a0 f0 a1 f1 a2 f2 a3 f3 a4 f4 a5 f5 a6 f6 a7 f7 a8 f8 az
        have HT := Lib.hid (((((((((HT.out.far ⟨GQ, 0, none⟩ (.int .i64 x3) (by show GT ≠ GQ; exact ne_T_Q)).far ⟨GQ, 1, none⟩ (.int .i64 x4) (by show GT ≠ GQ; exact ne_T_Q)).far ⟨GQ, 2, none⟩ (.int .i64 x5) (by show GT ≠ GQ; exact ne_T_Q)).far ⟨GQ, 3, none⟩ (.int .i64 x6) (by show GT ≠ GQ; exact ne_T_Q)).far ⟨GQ, 4, none⟩ (.int .i64 x7) (by show GT ≠ GQ; exact ne_T_Q)).far ⟨GQ, 5, none⟩ (.int .i64 x8) (by show GT ≠ GQ; exact ne_T_Q)).far ⟨GQ, 6, none⟩ (.int .i64 x9) (by show GT ≠ GQ; exact ne_T_Q)).far ⟨GQ, 7, none⟩ (.int .i64 x10) (by show GT ≠ GQ; exact ne_T_Q)).far ⟨GQ, 8, none⟩ (.int .i64 x11) (by show GT ≠ GQ; exact ne_T_Q))
        have HR := Lib.hid (((((((((HR.out.far ⟨GQ, 0, none⟩ (.int .i64 x3) (by show GR ≠ GQ; exact ne_R_Q)).far ⟨GQ, 1, none⟩ (.int .i64 x4) (by show GR ≠ GQ; exact ne_R_Q)).far ⟨GQ, 2, none⟩ (.int .i64 x5) (by show GR ≠ GQ; exact ne_R_Q)).far ⟨GQ, 3, none⟩ (.int .i64 x6) (by show GR ≠ GQ; exact ne_R_Q)).far ⟨GQ, 4, none⟩ (.int .i64 x7) (by show GR ≠ GQ; exact ne_R_Q)).far ⟨GQ, 5, none⟩ (.int .i64 x8) (by show GR ≠ GQ; exact ne_R_Q)).far ⟨GQ, 6, none⟩ (.int .i64 x9) (by show GR ≠ GQ; exact ne_R_Q)).far ⟨GQ, 7, none⟩ (.int .i64 x10) (by show GR ≠ GQ; exact ne_R_Q)).far ⟨GQ, 8, none⟩ (.int .i64 x11) (by show GR ≠ GQ; exact ne_R_Q))
        have HQ := Lib.hid (((((((((HQ.out.set0 x3).set1 x4).set2 x5).set3 x6).set4 x7).set5 x8).set6 x9).set7 x10).set8 x11)
        refine hK.out _ _ ⟨(Below.setCell (Below.setCell (Below.setCell (Below.setCell (Below.setCell (Below.setCell (Below.setCell (Below.setCell (Below.setCell hHeld.1 (p := ⟨GQ, 0, none⟩) le_Q _) (p := ⟨GQ, 1, none⟩) le_Q _) (p := ⟨GQ, 2, none⟩) le_Q _) (p := ⟨GQ, 3, none⟩) le_Q _) (p := ⟨GQ, 4, none⟩) le_Q _) (p := ⟨GQ, 5, none⟩) le_Q _) (p := ⟨GQ, 6, none⟩) le_Q _) (p := ⟨GQ, 7, none⟩) le_Q _) (p := ⟨GQ, 8, none⟩) le_Q _), HT.out, HR.out⟩ (fun hHeld2 => ?_); (clear hHeld; rename _ => hHeld; clear hK K; have hHeld : (fun W => Below w.heap.size w W ∧ Bk3 W GT a b c ∧ Bk9 W GR 0 0 0 0 0 0 0 0 0) _ := hHeld); (try simp only [Act.put, List.getElem_toArray, List.getElem_cons_succ, List.getElem_cons_zero, List.setIfInBounds_toArray, List.set_cons_zero, List.set_cons_succ])
        obtain ⟨ywr1x3, hwx⟩ : ∃ wx, ((((((((ywr1x2.setCell ⟨GQ, 0, none⟩ (.int .i64 x3)).setCell ⟨GQ, 1, none⟩ (.int .i64 x4)).setCell ⟨GQ, 2, none⟩ (.int .i64 x5)).setCell ⟨GQ, 3, none⟩ (.int .i64 x6)).setCell ⟨GQ, 4, none⟩ (.int .i64 x7)).setCell ⟨GQ, 5, none⟩ (.int .i64 x8)).setCell ⟨GQ, 6, none⟩ (.int .i64 x9)).setCell ⟨GQ, 7, none⟩ (.int .i64 x10)).setCell ⟨GQ, 8, none⟩ (.int .i64 x11) = wx := ⟨_, rfl⟩; rw [hwx] at HT HR HQ hHeld ⊢; clear hwx
        refine wpAnyH_done (by kernel_rfl) ?_ _
        have HB := Lib.hid (hHeld.1)
        clear hHeld
        clear HT
        obtain ⟨⟨qR0, qR1, qR2, qR3, qR4, qR5, qR6, qR7, qR8⟩, ⟨fR0, fR1, fR2, fR3, fR4, fR5, fR6, fR7, fR8⟩, zR⟩ := HR.out
        obtain ⟨⟨qQ0, qQ1, qQ2, qQ3, qQ4, qQ5, qQ6, qQ7, qQ8⟩, ⟨fQ0, fQ1, fQ2, fQ3, fQ4, fQ5, fQ6, fQ7, fQ8⟩, zQ⟩ := HQ.out
        go_wp2_with fail
        go_at_call 72
        refine (HSQ.out _).mono ?_
        rintro e w52 ⟨rfl, hb⟩
        clear qR0 fR0 qR1 fR1 qR2 fR2 qR3 fR3 qR4 fR4 qR5 fR5 qR6 fR6 qR7 fR7 qR8 fR8 zR qQ0 fQ0 qQ1 fQ1 qQ2 fQ2 qQ3 fQ3 qQ4 fQ4 qQ5 fQ5 qQ6 fQ6 qQ7 fQ7 qQ8 fQ8 zQ
        have HR := Lib.hid (HR.out.below hb)
        have HQ := Lib.hid (HQ.out.below hb)
        have HB := Lib.hid (below_after hb HB.out)
        clear hb
        obtain ⟨⟨qR0, qR1, qR2, qR3, qR4, qR5, qR6, qR7, qR8⟩, ⟨fR0, fR1, fR2, fR3, fR4, fR5, fR6, fR7, fR8⟩, zR⟩ := HR.out
        obtain ⟨⟨qQ0, qQ1, qQ2, qQ3, qQ4, qQ5, qQ6, qQ7, qQ8⟩, ⟨fQ0, fQ1, fQ2, fQ3, fQ4, fQ5, fQ6, fQ7, fQ8⟩, zQ⟩ := HQ.out
        go_wp2_with fail
        refine bodyPost_ret (v := .tuple #[.agg #[.int .i64 0, .int .i64 0, .int .i64 0, .int .i64 0, .int .i64 0, .int .i64 0, .int .i64 0, .int .i64 0, .int .i64 0], .int .i64 3]) (by simp (maxDischargeDepth := 8) [results, Try.results36, go_sem, *]) rfl ?_
        have hb := HB.out
        exact ⟨rfl, by (repeat' (first | (with_reducible exact Below.refl _ _) | (with_reducible refine Below.alloc ?_ ?_ _) | (with_reducible refine Below.setCell ?_ ?_ _) | (with_reducible refine Below.drew ?_) | (with_reducible refine below_drewN ?_ _) | (with_reducible assumption) | (with_reducible refine below_after (by with_reducible assumption) ?_) | go_size))⟩
    · have e1 : mrK a b c (k : Int) (m : Int) = 0 := by unfold mrK; rw [if_pos h0, hM, hf]; rfl
      have e2 : mrV a b c (k : Int) (m : Int) = .agg #[.int .i64 x3, .int .i64 x4, .int .i64 x5, .int .i64 x6, .int .i64 x7, .int .i64 x8, .int .i64 x9, .int .i64 x10, .int .i64 x11] := by unfold mrV; rw [if_pos e1, hM]
      rw [e1, e2]
      rw [hf] at HSQ
      clear hL hM hT hs hk h0 hm hf e1 e2
      obtain ⟨GT, hG⟩ : ∃ G, w.heap.size = G := ⟨_, rfl⟩
      have HG := Lib.hid hG
      go_enter Try.func36, Try.ntmps36
      go_upto_region 1 with fail
      obtain ⟨w0, hw0⟩ : ∃ w0, w0 = ((w.alloc (.cells #[.int .i64 a, .int .i64 b, .int .i64 c] 24)).alloc (.cells #[.int .i64 0, .int .i64 0, .int .i64 0, .int .i64 0, .int .i64 0, .int .i64 0, .int .i64 0, .int .i64 0, .int .i64 0] 43)) := ⟨_, rfl⟩
      rw [← hw0]
      have HT : Hid (Bk3 w0 GT a b c) := by
        have h := (bk3_new w a b c 24).below (W' := ((w.alloc (.cells #[.int .i64 a, .int .i64 b, .int .i64 c] 24)).alloc (.cells #[.int .i64 0, .int .i64 0, .int .i64 0, .int .i64 0, .int .i64 0, .int .i64 0, .int .i64 0, .int .i64 0, .int .i64 0] 43))) (by (repeat' (first | (with_reducible exact Below.refl _ _) | (with_reducible refine Below.alloc ?_ ?_ _) | (with_reducible refine Below.setCell ?_ ?_ _) | (with_reducible refine Below.drew ?_) | (with_reducible refine below_drewN ?_ _) | (with_reducible assumption) | (with_reducible refine below_after (by with_reducible assumption) ?_) | go_size)))
        (try simp only [World.size_alloc] at h)
        rw [hG] at h
        rw [hw0]; exact h
      have HR : Hid (Bk9 w0 (GT + 1) 0 0 0 0 0 0 0 0 0) := by
        have h := (bk9_new (w.alloc (.cells #[.int .i64 a, .int .i64 b, .int .i64 c] 24)) 0 0 0 0 0 0 0 0 0 43).below (W' := ((w.alloc (.cells #[.int .i64 a, .int .i64 b, .int .i64 c] 24)).alloc (.cells #[.int .i64 0, .int .i64 0, .int .i64 0, .int .i64 0, .int .i64 0, .int .i64 0, .int .i64 0, .int .i64 0, .int .i64 0] 43))) (by (repeat' (first | (with_reducible exact Below.refl _ _) | (with_reducible refine Below.alloc ?_ ?_ _) | (with_reducible refine Below.setCell ?_ ?_ _) | (with_reducible refine Below.drew ?_) | (with_reducible refine below_drewN ?_ _) | (with_reducible assumption) | (with_reducible refine below_after (by with_reducible assumption) ?_) | go_size)))
        (try simp only [World.size_alloc] at h)
        rw [hG] at h
        rw [hw0]; exact h
      have HB : Hid (Below w.heap.size w w0) := by show Below w.heap.size w w0; rw [hw0]; (repeat' (first | (with_reducible exact Below.refl _ _) | (with_reducible refine Below.alloc ?_ ?_ _) | (with_reducible refine Below.setCell ?_ ?_ _) | (with_reducible refine Below.drew ?_) | (with_reducible refine below_drewN ?_ _) | (with_reducible assumption) | (with_reducible refine below_after (by with_reducible assumption) ?_) | go_size))
      clear hw0
      obtain ⟨GR, hGR⟩ : ∃ g, GT + 1 = g := ⟨_, rfl⟩
      rw [hGR] at HR ⊢
      have le_T : w.heap.size ≤ GT := by omega
      have le_R : w.heap.size ≤ GR := by omega
      have ne_R_T : GR ≠ GT := by omega
      have ne_T_R : GT ≠ GR := by omega
      clear hGR
      obtain ⟨⟨qT0, qT1, qT2⟩, ⟨fT0, fT1, fT2⟩, zT⟩ := HT.out
      obtain ⟨⟨qR0, qR1, qR2, qR3, qR4, qR5, qR6, qR7, qR8⟩, ⟨fR0, fR1, fR2, fR3, fR4, fR5, fR6, fR7, fR8⟩, zR⟩ := HR.out
      go_wp2_with fail
      go_at_call 61
      refine (HCODE.out _).mono ?_
      rintro e w1 ⟨rfl, hb⟩
      clear qT0 fT0 qT1 fT1 qT2 fT2 zT qR0 fR0 qR1 fR1 qR2 fR2 qR3 fR3 qR4 fR4 qR5 fR5 qR6 fR6 qR7 fR7 qR8 fR8 zR
      have HT := Lib.hid (HT.out.below hb)
      have HR := Lib.hid (HR.out.below hb)
      have HB := Lib.hid (below_after hb HB.out)
      clear hb
      go_wp2_with fail
      refine wp_region_held_drew (S := fun W => Below w.heap.size w W ∧ Bk3 W GT a b c ∧ Bk9 W GR 0 0 0 0 0 0 0 0 0) (by kernel_rfl) ?_ (fun hHeld => ?_); focus ((try dsimp only); exact ⟨Below.drew HB.out, HT.out.below (Below.drew (Below.refl _ _)), HR.out.below (Below.drew (Below.refl _ _))⟩)
      have HT := Lib.hid (HT.out.below (Below.drew (Below.refl _ _)))
      have HR := Lib.hid (HR.out.below (Below.drew (Below.refl _ _)))
      have hHeld : (fun W => Below w.heap.size w W ∧ Bk3 W GT a b c ∧ Bk9 W GR 0 0 0 0 0 0 0 0 0) _ := hHeld
      obtain ⟨wD1, hwD1⟩ : ∃ wD, w1.drew = wD := ⟨_, rfl⟩
      rw [hwD1] at hHeld HT HR ⊢
      clear hwD1
      (refine wpAnyH_take (i := 0) (v := ?_) rfl (by kernel_rfl) (by kernel_rfl) (by kernel_rfl) (fun _ _ _ h => h) (Or.inl ⟨rfl, ?_⟩) (by assumption) ?_; rotate_left; focus (intro W hSw; (try dsimp only at hSw); obtain ⟨hSb, hxT, hxR⟩ := hSw; obtain ⟨⟨iT0, iT1, iT2⟩, _, _⟩ := hxT; obtain ⟨⟨iR0, iR1, iR2, iR3, iR4, iR5, iR6, iR7, iR8⟩, _, _⟩ := hxR; go_simp; try (with_reducible rfl))); (try simp only [Act.put, List.getElem_toArray, List.getElem_cons_succ, List.getElem_cons_zero, List.setIfInBounds_toArray, List.set_cons_zero, List.set_cons_succ])
      (refine wpAnyH_take (i := 1) (v := ?_) rfl (by kernel_rfl) (by kernel_rfl) (by kernel_rfl) (fun _ _ _ h => h) (Or.inl ⟨rfl, ?_⟩) (by assumption) ?_; rotate_left; focus (intro W hSw; (try dsimp only at hSw); obtain ⟨hSb, hxT, hxR⟩ := hSw; obtain ⟨⟨iT0, iT1, iT2⟩, _, _⟩ := hxT; obtain ⟨⟨iR0, iR1, iR2, iR3, iR4, iR5, iR6, iR7, iR8⟩, _, _⟩ := hxR; go_simp; try (with_reducible rfl))); (try simp only [Act.put, List.getElem_toArray, List.getElem_cons_succ, List.getElem_cons_zero, List.setIfInBounds_toArray, List.set_cons_zero, List.set_cons_succ])
      (refine wpAnyH_take (i := 3) (v := ?_) rfl (by kernel_rfl) (by kernel_rfl) (by kernel_rfl) (fun _ _ _ h => h) (Or.inl ⟨rfl, ?_⟩) (by assumption) ?_; rotate_left; focus (intro W hSw; (try dsimp only at hSw); obtain ⟨hSb, hxT, hxR⟩ := hSw; obtain ⟨⟨iT0, iT1, iT2⟩, _, _⟩ := hxT; obtain ⟨⟨iR0, iR1, iR2, iR3, iR4, iR5, iR6, iR7, iR8⟩, _, _⟩ := hxR; go_simp; try (with_reducible rfl))); (try simp only [Act.put, List.getElem_toArray, List.getElem_cons_succ, List.getElem_cons_zero, List.setIfInBounds_toArray, List.set_cons_zero, List.set_cons_succ])
      refine wpAnyH_ready (rs := [2, 6]) (by kernel_rfl) (by simp) ?_; refine AllReadyH.cons rfl (fun K hK => ?_) (AllReadyH.cons rfl (fun K hK => ?_) AllReadyH.nil)
      · skip
        go_simp; (go_at_call 63; refine (HRUL.out _).mono ?_; rintro en ywr1x0 ⟨rfl, hb2⟩); have HT := Lib.hid (HT.out.below hb2); have HR := Lib.hid (HR.out.below hb2); refine hK.out _ _ ⟨below_after hb2 hHeld.1, HT.out, HR.out⟩ (fun hHeld2 => ?_); clear hb2; (clear hHeld; rename _ => hHeld; clear hK K; have hHeld : (fun W => Below w.heap.size w W ∧ Bk3 W GT a b c ∧ Bk9 W GR 0 0 0 0 0 0 0 0 0) _ := hHeld); (try simp only [Act.put, List.getElem_toArray, List.getElem_cons_succ, List.getElem_cons_zero, List.setIfInBounds_toArray, List.set_cons_zero, List.set_cons_succ])
        refine wpAnyH_ready (rs := [4, 6]) (by kernel_rfl) (by simp) ?_; refine AllReadyH.cons rfl (fun K hK => ?_) (AllReadyH.cons rfl (fun K hK => ?_) AllReadyH.nil)
        · skip
          go_simp; (go_at_call 62; refine (HLS.out _).mono ?_; rintro en ywr1x1 ⟨rfl, hb2⟩); have HT := Lib.hid (HT.out.below hb2); have HR := Lib.hid (HR.out.below hb2); refine hK.out _ _ ⟨below_after hb2 hHeld.1, HT.out, HR.out⟩ (fun hHeld2 => ?_); clear hb2; (clear hHeld; rename _ => hHeld; clear hK K; have hHeld : (fun W => Below w.heap.size w W ∧ Bk3 W GT a b c ∧ Bk9 W GR 0 0 0 0 0 0 0 0 0) _ := hHeld); (try simp only [Act.put, List.getElem_toArray, List.getElem_cons_succ, List.getElem_cons_zero, List.setIfInBounds_toArray, List.set_cons_zero, List.set_cons_succ])
          (refine wpAnyH_take (i := 5) (v := ?_) rfl (by kernel_rfl) (by kernel_rfl) (by kernel_rfl) (fun _ _ _ h => h) (Or.inl ⟨rfl, ?_⟩) (by assumption) ?_; rotate_left; focus (intro W hSw; (try dsimp only at hSw); obtain ⟨hSb, hxT, hxR⟩ := hSw; obtain ⟨⟨iT0, iT1, iT2⟩, _, _⟩ := hxT; obtain ⟨⟨iR0, iR1, iR2, iR3, iR4, iR5, iR6, iR7, iR8⟩, _, _⟩ := hxR; go_simp; try (with_reducible rfl))); (try simp only [Act.put, List.getElem_toArray, List.getElem_cons_succ, List.getElem_cons_zero, List.setIfInBounds_toArray, List.set_cons_zero, List.set_cons_succ])
          refine wpAnyH_ready (rs := [6]) (by kernel_rfl) (by simp) ?_; refine AllReadyH.cons rfl (fun K hK => ?_) AllReadyH.nil
          go_simp; obtain ⟨GQ, hGQ⟩ : ∃ G, ywr1x1.heap.size = G := ⟨_, rfl⟩; have le_Q : w.heap.size ≤ GQ := by rw [← hGQ]; exact Below.size hHeld.1
          have ne_Q_T : GQ ≠ GT := by have := HT.out.2.2; omega
          have ne_T_Q : GT ≠ GQ := Ne.symm ne_Q_T
          have ne_Q_R : GQ ≠ GR := by have := HR.out.2.2; omega
          have ne_R_Q : GR ≠ GQ := Ne.symm ne_Q_R
          have HT := Lib.hid (HT.out.below ((Below.refl _ _).alloc (Nat.le_refl _) (.cells #[.int .i64 0, .int .i64 0, .int .i64 0, .int .i64 0, .int .i64 0, .int .i64 0, .int .i64 0, .int .i64 0, .int .i64 0] 43))); have HR := Lib.hid (HR.out.below ((Below.refl _ _).alloc (Nat.le_refl _) (.cells #[.int .i64 0, .int .i64 0, .int .i64 0, .int .i64 0, .int .i64 0, .int .i64 0, .int .i64 0, .int .i64 0, .int .i64 0] 43))); skip
          have HQ : Hid (Bk9 (ywr1x1.alloc (.cells #[.int .i64 0, .int .i64 0, .int .i64 0, .int .i64 0, .int .i64 0, .int .i64 0, .int .i64 0, .int .i64 0, .int .i64 0] 43)) GQ 0 0 0 0 0 0 0 0 0) := by rw [← hGQ]; exact bk9_new ywr1x1 0 0 0 0 0 0 0 0 0 _
          refine hK.out _ _ ⟨Below.alloc hHeld.1 (Below.size hHeld.1) _, HT.out, HR.out⟩ (fun hHeld2 => ?_); (clear hHeld; rename _ => hHeld; clear hK K; have hHeld : (fun W => Below w.heap.size w W ∧ Bk3 W GT a b c ∧ Bk9 W GR 0 0 0 0 0 0 0 0 0) _ := hHeld); (try simp only [Act.put, List.getElem_toArray, List.getElem_cons_succ, List.getElem_cons_zero, List.setIfInBounds_toArray, List.set_cons_zero, List.set_cons_succ])
          rw [hGQ]; clear hGQ; obtain ⟨ywr1x2, hwx⟩ : ∃ wx, ywr1x1.alloc (.cells #[.int .i64 0, .int .i64 0, .int .i64 0, .int .i64 0, .int .i64 0, .int .i64 0, .int .i64 0, .int .i64 0, .int .i64 0] 43) = wx := ⟨_, rfl⟩; rw [hwx] at HT HR HQ hHeld ⊢; clear hwx
          refine wpAnyH_ready (rs := [7]) (by kernel_rfl) (by simp) ?_; refine AllReadyH.cons rfl (fun K hK => ?_) AllReadyH.nil
          obtain ⟨⟨a0, a1, a2, a3, a4, a5, a6, a7, a8⟩, ⟨f0, f1, f2, f3, f4, f5, f6, f7, f8⟩, az⟩ := HQ.out; go_simp; clear a0 f0 a1 f1 a2 f2 a3 f3 a4 f4 a5 f5 a6 f6 a7 f7 a8 f8 az
          have HT := Lib.hid (((((((((HT.out.far ⟨GQ, 0, none⟩ (.int .i64 x3) (by show GT ≠ GQ; exact ne_T_Q)).far ⟨GQ, 1, none⟩ (.int .i64 x4) (by show GT ≠ GQ; exact ne_T_Q)).far ⟨GQ, 2, none⟩ (.int .i64 x5) (by show GT ≠ GQ; exact ne_T_Q)).far ⟨GQ, 3, none⟩ (.int .i64 x6) (by show GT ≠ GQ; exact ne_T_Q)).far ⟨GQ, 4, none⟩ (.int .i64 x7) (by show GT ≠ GQ; exact ne_T_Q)).far ⟨GQ, 5, none⟩ (.int .i64 x8) (by show GT ≠ GQ; exact ne_T_Q)).far ⟨GQ, 6, none⟩ (.int .i64 x9) (by show GT ≠ GQ; exact ne_T_Q)).far ⟨GQ, 7, none⟩ (.int .i64 x10) (by show GT ≠ GQ; exact ne_T_Q)).far ⟨GQ, 8, none⟩ (.int .i64 x11) (by show GT ≠ GQ; exact ne_T_Q))
          have HR := Lib.hid (((((((((HR.out.far ⟨GQ, 0, none⟩ (.int .i64 x3) (by show GR ≠ GQ; exact ne_R_Q)).far ⟨GQ, 1, none⟩ (.int .i64 x4) (by show GR ≠ GQ; exact ne_R_Q)).far ⟨GQ, 2, none⟩ (.int .i64 x5) (by show GR ≠ GQ; exact ne_R_Q)).far ⟨GQ, 3, none⟩ (.int .i64 x6) (by show GR ≠ GQ; exact ne_R_Q)).far ⟨GQ, 4, none⟩ (.int .i64 x7) (by show GR ≠ GQ; exact ne_R_Q)).far ⟨GQ, 5, none⟩ (.int .i64 x8) (by show GR ≠ GQ; exact ne_R_Q)).far ⟨GQ, 6, none⟩ (.int .i64 x9) (by show GR ≠ GQ; exact ne_R_Q)).far ⟨GQ, 7, none⟩ (.int .i64 x10) (by show GR ≠ GQ; exact ne_R_Q)).far ⟨GQ, 8, none⟩ (.int .i64 x11) (by show GR ≠ GQ; exact ne_R_Q))
          have HQ := Lib.hid (((((((((HQ.out.set0 x3).set1 x4).set2 x5).set3 x6).set4 x7).set5 x8).set6 x9).set7 x10).set8 x11)
          refine hK.out _ _ ⟨(Below.setCell (Below.setCell (Below.setCell (Below.setCell (Below.setCell (Below.setCell (Below.setCell (Below.setCell (Below.setCell hHeld.1 (p := ⟨GQ, 0, none⟩) le_Q _) (p := ⟨GQ, 1, none⟩) le_Q _) (p := ⟨GQ, 2, none⟩) le_Q _) (p := ⟨GQ, 3, none⟩) le_Q _) (p := ⟨GQ, 4, none⟩) le_Q _) (p := ⟨GQ, 5, none⟩) le_Q _) (p := ⟨GQ, 6, none⟩) le_Q _) (p := ⟨GQ, 7, none⟩) le_Q _) (p := ⟨GQ, 8, none⟩) le_Q _), HT.out, HR.out⟩ (fun hHeld2 => ?_); (clear hHeld; rename _ => hHeld; clear hK K; have hHeld : (fun W => Below w.heap.size w W ∧ Bk3 W GT a b c ∧ Bk9 W GR 0 0 0 0 0 0 0 0 0) _ := hHeld); (try simp only [Act.put, List.getElem_toArray, List.getElem_cons_succ, List.getElem_cons_zero, List.setIfInBounds_toArray, List.set_cons_zero, List.set_cons_succ])
          obtain ⟨ywr1x3, hwx⟩ : ∃ wx, ((((((((ywr1x2.setCell ⟨GQ, 0, none⟩ (.int .i64 x3)).setCell ⟨GQ, 1, none⟩ (.int .i64 x4)).setCell ⟨GQ, 2, none⟩ (.int .i64 x5)).setCell ⟨GQ, 3, none⟩ (.int .i64 x6)).setCell ⟨GQ, 4, none⟩ (.int .i64 x7)).setCell ⟨GQ, 5, none⟩ (.int .i64 x8)).setCell ⟨GQ, 6, none⟩ (.int .i64 x9)).setCell ⟨GQ, 7, none⟩ (.int .i64 x10)).setCell ⟨GQ, 8, none⟩ (.int .i64 x11) = wx := ⟨_, rfl⟩; rw [hwx] at HT HR HQ hHeld ⊢; clear hwx
          refine wpAnyH_done (by kernel_rfl) ?_ _
          have HB := Lib.hid (hHeld.1)
          clear hHeld
          clear HT
          obtain ⟨⟨qR0, qR1, qR2, qR3, qR4, qR5, qR6, qR7, qR8⟩, ⟨fR0, fR1, fR2, fR3, fR4, fR5, fR6, fR7, fR8⟩, zR⟩ := HR.out
          obtain ⟨⟨qQ0, qQ1, qQ2, qQ3, qQ4, qQ5, qQ6, qQ7, qQ8⟩, ⟨fQ0, fQ1, fQ2, fQ3, fQ4, fQ5, fQ6, fQ7, fQ8⟩, zQ⟩ := HQ.out
          go_wp2_with fail
          go_at_call 72
          refine (HSQ.out _).mono ?_
          rintro e w52 ⟨rfl, hb⟩
          clear qR0 fR0 qR1 fR1 qR2 fR2 qR3 fR3 qR4 fR4 qR5 fR5 qR6 fR6 qR7 fR7 qR8 fR8 zR qQ0 fQ0 qQ1 fQ1 qQ2 fQ2 qQ3 fQ3 qQ4 fQ4 qQ5 fQ5 qQ6 fQ6 qQ7 fQ7 qQ8 fQ8 zQ
          have HR := Lib.hid (HR.out.below hb)
          have HQ := Lib.hid (HQ.out.below hb)
          have HB := Lib.hid (below_after hb HB.out)
          clear hb
          obtain ⟨⟨qR0, qR1, qR2, qR3, qR4, qR5, qR6, qR7, qR8⟩, ⟨fR0, fR1, fR2, fR3, fR4, fR5, fR6, fR7, fR8⟩, zR⟩ := HR.out
          obtain ⟨⟨qQ0, qQ1, qQ2, qQ3, qQ4, qQ5, qQ6, qQ7, qQ8⟩, ⟨fQ0, fQ1, fQ2, fQ3, fQ4, fQ5, fQ6, fQ7, fQ8⟩, zQ⟩ := HQ.out
          go_wp2_with fail
          refine bodyPost_ret (v := .tuple #[.agg #[.int .i64 x3, .int .i64 x4, .int .i64 x5, .int .i64 x6, .int .i64 x7, .int .i64 x8, .int .i64 x9, .int .i64 x10, .int .i64 x11], .int .i64 0]) (by simp (maxDischargeDepth := 8) [results, Try.results36, go_sem, *]) rfl ?_
          have hb := HB.out
          exact ⟨rfl, by (repeat' (first | (with_reducible exact Below.refl _ _) | (with_reducible refine Below.alloc ?_ ?_ _) | (with_reducible refine Below.setCell ?_ ?_ _) | (with_reducible refine Below.drew ?_) | (with_reducible refine below_drewN ?_ _) | (with_reducible assumption) | (with_reducible refine below_after (by with_reducible assumption) ?_) | go_size))⟩
        · skip
          go_simp; obtain ⟨GQ, hGQ⟩ : ∃ G, ywr1x0.heap.size = G := ⟨_, rfl⟩; have le_Q : w.heap.size ≤ GQ := by rw [← hGQ]; exact Below.size hHeld.1
          have ne_Q_T : GQ ≠ GT := by have := HT.out.2.2; omega
          have ne_T_Q : GT ≠ GQ := Ne.symm ne_Q_T
          have ne_Q_R : GQ ≠ GR := by have := HR.out.2.2; omega
          have ne_R_Q : GR ≠ GQ := Ne.symm ne_Q_R
          have HT := Lib.hid (HT.out.below ((Below.refl _ _).alloc (Nat.le_refl _) (.cells #[.int .i64 0, .int .i64 0, .int .i64 0, .int .i64 0, .int .i64 0, .int .i64 0, .int .i64 0, .int .i64 0, .int .i64 0] 43))); have HR := Lib.hid (HR.out.below ((Below.refl _ _).alloc (Nat.le_refl _) (.cells #[.int .i64 0, .int .i64 0, .int .i64 0, .int .i64 0, .int .i64 0, .int .i64 0, .int .i64 0, .int .i64 0, .int .i64 0] 43))); skip
          have HQ : Hid (Bk9 (ywr1x0.alloc (.cells #[.int .i64 0, .int .i64 0, .int .i64 0, .int .i64 0, .int .i64 0, .int .i64 0, .int .i64 0, .int .i64 0, .int .i64 0] 43)) GQ 0 0 0 0 0 0 0 0 0) := by rw [← hGQ]; exact bk9_new ywr1x0 0 0 0 0 0 0 0 0 0 _
          refine hK.out _ _ ⟨Below.alloc hHeld.1 (Below.size hHeld.1) _, HT.out, HR.out⟩ (fun hHeld2 => ?_); (clear hHeld; rename _ => hHeld; clear hK K; have hHeld : (fun W => Below w.heap.size w W ∧ Bk3 W GT a b c ∧ Bk9 W GR 0 0 0 0 0 0 0 0 0) _ := hHeld); (try simp only [Act.put, List.getElem_toArray, List.getElem_cons_succ, List.getElem_cons_zero, List.setIfInBounds_toArray, List.set_cons_zero, List.set_cons_succ])
          rw [hGQ]; clear hGQ; obtain ⟨ywr1x1, hwx⟩ : ∃ wx, ywr1x0.alloc (.cells #[.int .i64 0, .int .i64 0, .int .i64 0, .int .i64 0, .int .i64 0, .int .i64 0, .int .i64 0, .int .i64 0, .int .i64 0] 43) = wx := ⟨_, rfl⟩; rw [hwx] at HT HR HQ hHeld ⊢; clear hwx
          refine wpAnyH_ready (rs := [4]) (by kernel_rfl) (by simp) ?_; refine AllReadyH.cons rfl (fun K hK => ?_) AllReadyH.nil
          go_simp; (go_at_call 62; refine (HLS.out _).mono ?_; rintro en ywr1x2 ⟨rfl, hb2⟩); have HT := Lib.hid (HT.out.below hb2); have HR := Lib.hid (HR.out.below hb2); have HQ := Lib.hid (HQ.out.below hb2); refine hK.out _ _ ⟨below_after hb2 hHeld.1, HT.out, HR.out⟩ (fun hHeld2 => ?_); clear hb2; (clear hHeld; rename _ => hHeld; clear hK K; have hHeld : (fun W => Below w.heap.size w W ∧ Bk3 W GT a b c ∧ Bk9 W GR 0 0 0 0 0 0 0 0 0) _ := hHeld); (try simp only [Act.put, List.getElem_toArray, List.getElem_cons_succ, List.getElem_cons_zero, List.setIfInBounds_toArray, List.set_cons_zero, List.set_cons_succ])
          (refine wpAnyH_take (i := 5) (v := ?_) rfl (by kernel_rfl) (by kernel_rfl) (by kernel_rfl) (fun _ _ _ h => h) (Or.inl ⟨rfl, ?_⟩) (by assumption) ?_; rotate_left; focus (intro W hSw; (try dsimp only at hSw); obtain ⟨hSb, hxT, hxR⟩ := hSw; obtain ⟨⟨iT0, iT1, iT2⟩, _, _⟩ := hxT; obtain ⟨⟨iR0, iR1, iR2, iR3, iR4, iR5, iR6, iR7, iR8⟩, _, _⟩ := hxR; go_simp; try (with_reducible rfl))); (try simp only [Act.put, List.getElem_toArray, List.getElem_cons_succ, List.getElem_cons_zero, List.setIfInBounds_toArray, List.set_cons_zero, List.set_cons_succ])
          refine wpAnyH_ready (rs := [7]) (by kernel_rfl) (by simp) ?_; refine AllReadyH.cons rfl (fun K hK => ?_) AllReadyH.nil
          obtain ⟨⟨a0, a1, a2, a3, a4, a5, a6, a7, a8⟩, ⟨f0, f1, f2, f3, f4, f5, f6, f7, f8⟩, az⟩ := HQ.out; go_simp; clear a0 f0 a1 f1 a2 f2 a3 f3 a4 f4 a5 f5 a6 f6 a7 f7 a8 f8 az
          have HT := Lib.hid (((((((((HT.out.far ⟨GQ, 0, none⟩ (.int .i64 x3) (by show GT ≠ GQ; exact ne_T_Q)).far ⟨GQ, 1, none⟩ (.int .i64 x4) (by show GT ≠ GQ; exact ne_T_Q)).far ⟨GQ, 2, none⟩ (.int .i64 x5) (by show GT ≠ GQ; exact ne_T_Q)).far ⟨GQ, 3, none⟩ (.int .i64 x6) (by show GT ≠ GQ; exact ne_T_Q)).far ⟨GQ, 4, none⟩ (.int .i64 x7) (by show GT ≠ GQ; exact ne_T_Q)).far ⟨GQ, 5, none⟩ (.int .i64 x8) (by show GT ≠ GQ; exact ne_T_Q)).far ⟨GQ, 6, none⟩ (.int .i64 x9) (by show GT ≠ GQ; exact ne_T_Q)).far ⟨GQ, 7, none⟩ (.int .i64 x10) (by show GT ≠ GQ; exact ne_T_Q)).far ⟨GQ, 8, none⟩ (.int .i64 x11) (by show GT ≠ GQ; exact ne_T_Q))
          have HR := Lib.hid (((((((((HR.out.far ⟨GQ, 0, none⟩ (.int .i64 x3) (by show GR ≠ GQ; exact ne_R_Q)).far ⟨GQ, 1, none⟩ (.int .i64 x4) (by show GR ≠ GQ; exact ne_R_Q)).far ⟨GQ, 2, none⟩ (.int .i64 x5) (by show GR ≠ GQ; exact ne_R_Q)).far ⟨GQ, 3, none⟩ (.int .i64 x6) (by show GR ≠ GQ; exact ne_R_Q)).far ⟨GQ, 4, none⟩ (.int .i64 x7) (by show GR ≠ GQ; exact ne_R_Q)).far ⟨GQ, 5, none⟩ (.int .i64 x8) (by show GR ≠ GQ; exact ne_R_Q)).far ⟨GQ, 6, none⟩ (.int .i64 x9) (by show GR ≠ GQ; exact ne_R_Q)).far ⟨GQ, 7, none⟩ (.int .i64 x10) (by show GR ≠ GQ; exact ne_R_Q)).far ⟨GQ, 8, none⟩ (.int .i64 x11) (by show GR ≠ GQ; exact ne_R_Q))
          have HQ := Lib.hid (((((((((HQ.out.set0 x3).set1 x4).set2 x5).set3 x6).set4 x7).set5 x8).set6 x9).set7 x10).set8 x11)
          refine hK.out _ _ ⟨(Below.setCell (Below.setCell (Below.setCell (Below.setCell (Below.setCell (Below.setCell (Below.setCell (Below.setCell (Below.setCell hHeld.1 (p := ⟨GQ, 0, none⟩) le_Q _) (p := ⟨GQ, 1, none⟩) le_Q _) (p := ⟨GQ, 2, none⟩) le_Q _) (p := ⟨GQ, 3, none⟩) le_Q _) (p := ⟨GQ, 4, none⟩) le_Q _) (p := ⟨GQ, 5, none⟩) le_Q _) (p := ⟨GQ, 6, none⟩) le_Q _) (p := ⟨GQ, 7, none⟩) le_Q _) (p := ⟨GQ, 8, none⟩) le_Q _), HT.out, HR.out⟩ (fun hHeld2 => ?_); (clear hHeld; rename _ => hHeld; clear hK K; have hHeld : (fun W => Below w.heap.size w W ∧ Bk3 W GT a b c ∧ Bk9 W GR 0 0 0 0 0 0 0 0 0) _ := hHeld); (try simp only [Act.put, List.getElem_toArray, List.getElem_cons_succ, List.getElem_cons_zero, List.setIfInBounds_toArray, List.set_cons_zero, List.set_cons_succ])
          obtain ⟨ywr1x3, hwx⟩ : ∃ wx, ((((((((ywr1x2.setCell ⟨GQ, 0, none⟩ (.int .i64 x3)).setCell ⟨GQ, 1, none⟩ (.int .i64 x4)).setCell ⟨GQ, 2, none⟩ (.int .i64 x5)).setCell ⟨GQ, 3, none⟩ (.int .i64 x6)).setCell ⟨GQ, 4, none⟩ (.int .i64 x7)).setCell ⟨GQ, 5, none⟩ (.int .i64 x8)).setCell ⟨GQ, 6, none⟩ (.int .i64 x9)).setCell ⟨GQ, 7, none⟩ (.int .i64 x10)).setCell ⟨GQ, 8, none⟩ (.int .i64 x11) = wx := ⟨_, rfl⟩; rw [hwx] at HT HR HQ hHeld ⊢; clear hwx
          refine wpAnyH_done (by kernel_rfl) ?_ _
          have HB := Lib.hid (hHeld.1)
          clear hHeld
          clear HT
          obtain ⟨⟨qR0, qR1, qR2, qR3, qR4, qR5, qR6, qR7, qR8⟩, ⟨fR0, fR1, fR2, fR3, fR4, fR5, fR6, fR7, fR8⟩, zR⟩ := HR.out
          obtain ⟨⟨qQ0, qQ1, qQ2, qQ3, qQ4, qQ5, qQ6, qQ7, qQ8⟩, ⟨fQ0, fQ1, fQ2, fQ3, fQ4, fQ5, fQ6, fQ7, fQ8⟩, zQ⟩ := HQ.out
          go_wp2_with fail
          go_at_call 72
          refine (HSQ.out _).mono ?_
          rintro e w52 ⟨rfl, hb⟩
          clear qR0 fR0 qR1 fR1 qR2 fR2 qR3 fR3 qR4 fR4 qR5 fR5 qR6 fR6 qR7 fR7 qR8 fR8 zR qQ0 fQ0 qQ1 fQ1 qQ2 fQ2 qQ3 fQ3 qQ4 fQ4 qQ5 fQ5 qQ6 fQ6 qQ7 fQ7 qQ8 fQ8 zQ
          have HR := Lib.hid (HR.out.below hb)
          have HQ := Lib.hid (HQ.out.below hb)
          have HB := Lib.hid (below_after hb HB.out)
          clear hb
          obtain ⟨⟨qR0, qR1, qR2, qR3, qR4, qR5, qR6, qR7, qR8⟩, ⟨fR0, fR1, fR2, fR3, fR4, fR5, fR6, fR7, fR8⟩, zR⟩ := HR.out
          obtain ⟨⟨qQ0, qQ1, qQ2, qQ3, qQ4, qQ5, qQ6, qQ7, qQ8⟩, ⟨fQ0, fQ1, fQ2, fQ3, fQ4, fQ5, fQ6, fQ7, fQ8⟩, zQ⟩ := HQ.out
          go_wp2_with fail
          refine bodyPost_ret (v := .tuple #[.agg #[.int .i64 x3, .int .i64 x4, .int .i64 x5, .int .i64 x6, .int .i64 x7, .int .i64 x8, .int .i64 x9, .int .i64 x10, .int .i64 x11], .int .i64 0]) (by simp (maxDischargeDepth := 8) [results, Try.results36, go_sem, *]) rfl ?_
          have hb := HB.out
          exact ⟨rfl, by (repeat' (first | (with_reducible exact Below.refl _ _) | (with_reducible refine Below.alloc ?_ ?_ _) | (with_reducible refine Below.setCell ?_ ?_ _) | (with_reducible refine Below.drew ?_) | (with_reducible refine below_drewN ?_ _) | (with_reducible assumption) | (with_reducible refine below_after (by with_reducible assumption) ?_) | go_size))⟩
      · skip
        go_simp; obtain ⟨GQ, hGQ⟩ : ∃ G, wD1.heap.size = G := ⟨_, rfl⟩; have le_Q : w.heap.size ≤ GQ := by rw [← hGQ]; exact Below.size hHeld.1
        have ne_Q_T : GQ ≠ GT := by have := HT.out.2.2; omega
        have ne_T_Q : GT ≠ GQ := Ne.symm ne_Q_T
        have ne_Q_R : GQ ≠ GR := by have := HR.out.2.2; omega
        have ne_R_Q : GR ≠ GQ := Ne.symm ne_Q_R
        have HT := Lib.hid (HT.out.below ((Below.refl _ _).alloc (Nat.le_refl _) (.cells #[.int .i64 0, .int .i64 0, .int .i64 0, .int .i64 0, .int .i64 0, .int .i64 0, .int .i64 0, .int .i64 0, .int .i64 0] 43))); have HR := Lib.hid (HR.out.below ((Below.refl _ _).alloc (Nat.le_refl _) (.cells #[.int .i64 0, .int .i64 0, .int .i64 0, .int .i64 0, .int .i64 0, .int .i64 0, .int .i64 0, .int .i64 0, .int .i64 0] 43))); skip
        have HQ : Hid (Bk9 (wD1.alloc (.cells #[.int .i64 0, .int .i64 0, .int .i64 0, .int .i64 0, .int .i64 0, .int .i64 0, .int .i64 0, .int .i64 0, .int .i64 0] 43)) GQ 0 0 0 0 0 0 0 0 0) := by rw [← hGQ]; exact bk9_new wD1 0 0 0 0 0 0 0 0 0 _
        refine hK.out _ _ ⟨Below.alloc hHeld.1 (Below.size hHeld.1) _, HT.out, HR.out⟩ (fun hHeld2 => ?_); (clear hHeld; rename _ => hHeld; clear hK K; have hHeld : (fun W => Below w.heap.size w W ∧ Bk3 W GT a b c ∧ Bk9 W GR 0 0 0 0 0 0 0 0 0) _ := hHeld); (try simp only [Act.put, List.getElem_toArray, List.getElem_cons_succ, List.getElem_cons_zero, List.setIfInBounds_toArray, List.set_cons_zero, List.set_cons_succ])
        rw [hGQ]; clear hGQ; obtain ⟨ywr1x0, hwx⟩ : ∃ wx, wD1.alloc (.cells #[.int .i64 0, .int .i64 0, .int .i64 0, .int .i64 0, .int .i64 0, .int .i64 0, .int .i64 0, .int .i64 0, .int .i64 0] 43) = wx := ⟨_, rfl⟩; rw [hwx] at HT HR HQ hHeld ⊢; clear hwx
        refine wpAnyH_ready (rs := [2]) (by kernel_rfl) (by simp) ?_; refine AllReadyH.cons rfl (fun K hK => ?_) AllReadyH.nil
        go_simp; (go_at_call 63; refine (HRUL.out _).mono ?_; rintro en ywr1x1 ⟨rfl, hb2⟩); have HT := Lib.hid (HT.out.below hb2); have HR := Lib.hid (HR.out.below hb2); have HQ := Lib.hid (HQ.out.below hb2); refine hK.out _ _ ⟨below_after hb2 hHeld.1, HT.out, HR.out⟩ (fun hHeld2 => ?_); clear hb2; (clear hHeld; rename _ => hHeld; clear hK K; have hHeld : (fun W => Below w.heap.size w W ∧ Bk3 W GT a b c ∧ Bk9 W GR 0 0 0 0 0 0 0 0 0) _ := hHeld); (try simp only [Act.put, List.getElem_toArray, List.getElem_cons_succ, List.getElem_cons_zero, List.setIfInBounds_toArray, List.set_cons_zero, List.set_cons_succ])
        refine wpAnyH_ready (rs := [4]) (by kernel_rfl) (by simp) ?_; refine AllReadyH.cons rfl (fun K hK => ?_) AllReadyH.nil
        go_simp; (go_at_call 62; refine (HLS.out _).mono ?_; rintro en ywr1x2 ⟨rfl, hb2⟩); have HT := Lib.hid (HT.out.below hb2); have HR := Lib.hid (HR.out.below hb2); have HQ := Lib.hid (HQ.out.below hb2); refine hK.out _ _ ⟨below_after hb2 hHeld.1, HT.out, HR.out⟩ (fun hHeld2 => ?_); clear hb2; (clear hHeld; rename _ => hHeld; clear hK K; have hHeld : (fun W => Below w.heap.size w W ∧ Bk3 W GT a b c ∧ Bk9 W GR 0 0 0 0 0 0 0 0 0) _ := hHeld); (try simp only [Act.put, List.getElem_toArray, List.getElem_cons_succ, List.getElem_cons_zero, List.setIfInBounds_toArray, List.set_cons_zero, List.set_cons_succ])
        (refine wpAnyH_take (i := 5) (v := ?_) rfl (by kernel_rfl) (by kernel_rfl) (by kernel_rfl) (fun _ _ _ h => h) (Or.inl ⟨rfl, ?_⟩) (by assumption) ?_; rotate_left; focus (intro W hSw; (try dsimp only at hSw); obtain ⟨hSb, hxT, hxR⟩ := hSw; obtain ⟨⟨iT0, iT1, iT2⟩, _, _⟩ := hxT; obtain ⟨⟨iR0, iR1, iR2, iR3, iR4, iR5, iR6, iR7, iR8⟩, _, _⟩ := hxR; go_simp; try (with_reducible rfl))); (try simp only [Act.put, List.getElem_toArray, List.getElem_cons_succ, List.getElem_cons_zero, List.setIfInBounds_toArray, List.set_cons_zero, List.set_cons_succ])
        refine wpAnyH_ready (rs := [7]) (by kernel_rfl) (by simp) ?_; refine AllReadyH.cons rfl (fun K hK => ?_) AllReadyH.nil
        obtain ⟨⟨a0, a1, a2, a3, a4, a5, a6, a7, a8⟩, ⟨f0, f1, f2, f3, f4, f5, f6, f7, f8⟩, az⟩ := HQ.out; go_simp; clear a0 f0 a1 f1 a2 f2 a3 f3 a4 f4 a5 f5 a6 f6 a7 f7 a8 f8 az
        have HT := Lib.hid (((((((((HT.out.far ⟨GQ, 0, none⟩ (.int .i64 x3) (by show GT ≠ GQ; exact ne_T_Q)).far ⟨GQ, 1, none⟩ (.int .i64 x4) (by show GT ≠ GQ; exact ne_T_Q)).far ⟨GQ, 2, none⟩ (.int .i64 x5) (by show GT ≠ GQ; exact ne_T_Q)).far ⟨GQ, 3, none⟩ (.int .i64 x6) (by show GT ≠ GQ; exact ne_T_Q)).far ⟨GQ, 4, none⟩ (.int .i64 x7) (by show GT ≠ GQ; exact ne_T_Q)).far ⟨GQ, 5, none⟩ (.int .i64 x8) (by show GT ≠ GQ; exact ne_T_Q)).far ⟨GQ, 6, none⟩ (.int .i64 x9) (by show GT ≠ GQ; exact ne_T_Q)).far ⟨GQ, 7, none⟩ (.int .i64 x10) (by show GT ≠ GQ; exact ne_T_Q)).far ⟨GQ, 8, none⟩ (.int .i64 x11) (by show GT ≠ GQ; exact ne_T_Q))
        have HR := Lib.hid (((((((((HR.out.far ⟨GQ, 0, none⟩ (.int .i64 x3) (by show GR ≠ GQ; exact ne_R_Q)).far ⟨GQ, 1, none⟩ (.int .i64 x4) (by show GR ≠ GQ; exact ne_R_Q)).far ⟨GQ, 2, none⟩ (.int .i64 x5) (by show GR ≠ GQ; exact ne_R_Q)).far ⟨GQ, 3, none⟩ (.int .i64 x6) (by show GR ≠ GQ; exact ne_R_Q)).far ⟨GQ, 4, none⟩ (.int .i64 x7) (by show GR ≠ GQ; exact ne_R_Q)).far ⟨GQ, 5, none⟩ (.int .i64 x8) (by show GR ≠ GQ; exact ne_R_Q)).far ⟨GQ, 6, none⟩ (.int .i64 x9) (by show GR ≠ GQ; exact ne_R_Q)).far ⟨GQ, 7, none⟩ (.int .i64 x10) (by show GR ≠ GQ; exact ne_R_Q)).far ⟨GQ, 8, none⟩ (.int .i64 x11) (by show GR ≠ GQ; exact ne_R_Q))
        have HQ := Lib.hid (((((((((HQ.out.set0 x3).set1 x4).set2 x5).set3 x6).set4 x7).set5 x8).set6 x9).set7 x10).set8 x11)
        refine hK.out _ _ ⟨(Below.setCell (Below.setCell (Below.setCell (Below.setCell (Below.setCell (Below.setCell (Below.setCell (Below.setCell (Below.setCell hHeld.1 (p := ⟨GQ, 0, none⟩) le_Q _) (p := ⟨GQ, 1, none⟩) le_Q _) (p := ⟨GQ, 2, none⟩) le_Q _) (p := ⟨GQ, 3, none⟩) le_Q _) (p := ⟨GQ, 4, none⟩) le_Q _) (p := ⟨GQ, 5, none⟩) le_Q _) (p := ⟨GQ, 6, none⟩) le_Q _) (p := ⟨GQ, 7, none⟩) le_Q _) (p := ⟨GQ, 8, none⟩) le_Q _), HT.out, HR.out⟩ (fun hHeld2 => ?_); (clear hHeld; rename _ => hHeld; clear hK K; have hHeld : (fun W => Below w.heap.size w W ∧ Bk3 W GT a b c ∧ Bk9 W GR 0 0 0 0 0 0 0 0 0) _ := hHeld); (try simp only [Act.put, List.getElem_toArray, List.getElem_cons_succ, List.getElem_cons_zero, List.setIfInBounds_toArray, List.set_cons_zero, List.set_cons_succ])
        obtain ⟨ywr1x3, hwx⟩ : ∃ wx, ((((((((ywr1x2.setCell ⟨GQ, 0, none⟩ (.int .i64 x3)).setCell ⟨GQ, 1, none⟩ (.int .i64 x4)).setCell ⟨GQ, 2, none⟩ (.int .i64 x5)).setCell ⟨GQ, 3, none⟩ (.int .i64 x6)).setCell ⟨GQ, 4, none⟩ (.int .i64 x7)).setCell ⟨GQ, 5, none⟩ (.int .i64 x8)).setCell ⟨GQ, 6, none⟩ (.int .i64 x9)).setCell ⟨GQ, 7, none⟩ (.int .i64 x10)).setCell ⟨GQ, 8, none⟩ (.int .i64 x11) = wx := ⟨_, rfl⟩; rw [hwx] at HT HR HQ hHeld ⊢; clear hwx
        refine wpAnyH_done (by kernel_rfl) ?_ _
        have HB := Lib.hid (hHeld.1)
        clear hHeld
        clear HT
        obtain ⟨⟨qR0, qR1, qR2, qR3, qR4, qR5, qR6, qR7, qR8⟩, ⟨fR0, fR1, fR2, fR3, fR4, fR5, fR6, fR7, fR8⟩, zR⟩ := HR.out
        obtain ⟨⟨qQ0, qQ1, qQ2, qQ3, qQ4, qQ5, qQ6, qQ7, qQ8⟩, ⟨fQ0, fQ1, fQ2, fQ3, fQ4, fQ5, fQ6, fQ7, fQ8⟩, zQ⟩ := HQ.out
        go_wp2_with fail
        go_at_call 72
        refine (HSQ.out _).mono ?_
        rintro e w52 ⟨rfl, hb⟩
        clear qR0 fR0 qR1 fR1 qR2 fR2 qR3 fR3 qR4 fR4 qR5 fR5 qR6 fR6 qR7 fR7 qR8 fR8 zR qQ0 fQ0 qQ1 fQ1 qQ2 fQ2 qQ3 fQ3 qQ4 fQ4 qQ5 fQ5 qQ6 fQ6 qQ7 fQ7 qQ8 fQ8 zQ
        have HR := Lib.hid (HR.out.below hb)
        have HQ := Lib.hid (HQ.out.below hb)
        have HB := Lib.hid (below_after hb HB.out)
        clear hb
        obtain ⟨⟨qR0, qR1, qR2, qR3, qR4, qR5, qR6, qR7, qR8⟩, ⟨fR0, fR1, fR2, fR3, fR4, fR5, fR6, fR7, fR8⟩, zR⟩ := HR.out
        obtain ⟨⟨qQ0, qQ1, qQ2, qQ3, qQ4, qQ5, qQ6, qQ7, qQ8⟩, ⟨fQ0, fQ1, fQ2, fQ3, fQ4, fQ5, fQ6, fQ7, fQ8⟩, zQ⟩ := HQ.out
        go_wp2_with fail
        refine bodyPost_ret (v := .tuple #[.agg #[.int .i64 x3, .int .i64 x4, .int .i64 x5, .int .i64 x6, .int .i64 x7, .int .i64 x8, .int .i64 x9, .int .i64 x10, .int .i64 x11], .int .i64 0]) (by simp (maxDischargeDepth := 8) [results, Try.results36, go_sem, *]) rfl ?_
        have hb := HB.out
        exact ⟨rfl, by (repeat' (first | (with_reducible exact Below.refl _ _) | (with_reducible refine Below.alloc ?_ ?_ _) | (with_reducible refine Below.setCell ?_ ?_ _) | (with_reducible refine Below.drew ?_) | (with_reducible refine below_drewN ?_ _) | (with_reducible assumption) | (with_reducible refine below_after (by with_reducible assumption) ?_) | go_size))⟩
  · have e1 : mrK a b c r n = rcd a b c r n := by unfold mrK; rw [if_neg h1]
    have e2 : mrV a b c r n = .agg #[.int .i64 0, .int .i64 0, .int .i64 0, .int .i64 0, .int .i64 0, .int .i64 0, .int .i64 0, .int .i64 0, .int .i64 0] := by unfold mrV; rw [if_neg (by rw [e1]; exact h1)]
    rw [e1, e2]
    obtain ⟨K, hK⟩ : ∃ K, rcd a b c r n = K := ⟨_, rfl⟩
    rw [hK] at HCODE h0 ⊢
    clear hK h1 e1 e2
    obtain ⟨GT, hG⟩ : ∃ G, w.heap.size = G := ⟨_, rfl⟩
    have HG := Lib.hid hG
    go_enter Try.func36, Try.ntmps36
    go_upto_region 1 with fail
    obtain ⟨w0, hw0⟩ : ∃ w0, w0 = ((w.alloc (.cells #[.int .i64 a, .int .i64 b, .int .i64 c] 24)).alloc (.cells #[.int .i64 0, .int .i64 0, .int .i64 0, .int .i64 0, .int .i64 0, .int .i64 0, .int .i64 0, .int .i64 0, .int .i64 0] 43)) := ⟨_, rfl⟩
    rw [← hw0]
    have HT : Hid (Bk3 w0 GT a b c) := by
      have h := (bk3_new w a b c 24).below (W' := ((w.alloc (.cells #[.int .i64 a, .int .i64 b, .int .i64 c] 24)).alloc (.cells #[.int .i64 0, .int .i64 0, .int .i64 0, .int .i64 0, .int .i64 0, .int .i64 0, .int .i64 0, .int .i64 0, .int .i64 0] 43))) (by (repeat' (first | (with_reducible exact Below.refl _ _) | (with_reducible refine Below.alloc ?_ ?_ _) | (with_reducible refine Below.setCell ?_ ?_ _) | (with_reducible refine Below.drew ?_) | (with_reducible refine below_drewN ?_ _) | (with_reducible assumption) | (with_reducible refine below_after (by with_reducible assumption) ?_) | go_size)))
      (try simp only [World.size_alloc] at h)
      rw [hG] at h
      rw [hw0]; exact h
    have HR : Hid (Bk9 w0 (GT + 1) 0 0 0 0 0 0 0 0 0) := by
      have h := (bk9_new (w.alloc (.cells #[.int .i64 a, .int .i64 b, .int .i64 c] 24)) 0 0 0 0 0 0 0 0 0 43).below (W' := ((w.alloc (.cells #[.int .i64 a, .int .i64 b, .int .i64 c] 24)).alloc (.cells #[.int .i64 0, .int .i64 0, .int .i64 0, .int .i64 0, .int .i64 0, .int .i64 0, .int .i64 0, .int .i64 0, .int .i64 0] 43))) (by (repeat' (first | (with_reducible exact Below.refl _ _) | (with_reducible refine Below.alloc ?_ ?_ _) | (with_reducible refine Below.setCell ?_ ?_ _) | (with_reducible refine Below.drew ?_) | (with_reducible refine below_drewN ?_ _) | (with_reducible assumption) | (with_reducible refine below_after (by with_reducible assumption) ?_) | go_size)))
      (try simp only [World.size_alloc] at h)
      rw [hG] at h
      rw [hw0]; exact h
    have HB : Hid (Below w.heap.size w w0) := by show Below w.heap.size w w0; rw [hw0]; (repeat' (first | (with_reducible exact Below.refl _ _) | (with_reducible refine Below.alloc ?_ ?_ _) | (with_reducible refine Below.setCell ?_ ?_ _) | (with_reducible refine Below.drew ?_) | (with_reducible refine below_drewN ?_ _) | (with_reducible assumption) | (with_reducible refine below_after (by with_reducible assumption) ?_) | go_size))
    clear hw0
    obtain ⟨GR, hGR⟩ : ∃ g, GT + 1 = g := ⟨_, rfl⟩
    rw [hGR] at HR ⊢
    have le_T : w.heap.size ≤ GT := by omega
    have le_R : w.heap.size ≤ GR := by omega
    have ne_R_T : GR ≠ GT := by omega
    have ne_T_R : GT ≠ GR := by omega
    clear hGR
    obtain ⟨⟨qT0, qT1, qT2⟩, ⟨fT0, fT1, fT2⟩, zT⟩ := HT.out
    obtain ⟨⟨qR0, qR1, qR2, qR3, qR4, qR5, qR6, qR7, qR8⟩, ⟨fR0, fR1, fR2, fR3, fR4, fR5, fR6, fR7, fR8⟩, zR⟩ := HR.out
    go_wp2_with fail
    go_at_call 61
    refine (HCODE.out _).mono ?_
    rintro e w1 ⟨rfl, hb⟩
    clear qT0 fT0 qT1 fT1 qT2 fT2 zT qR0 fR0 qR1 fR1 qR2 fR2 qR3 fR3 qR4 fR4 qR5 fR5 qR6 fR6 qR7 fR7 qR8 fR8 zR
    have HT := Lib.hid (HT.out.below hb)
    have HR := Lib.hid (HR.out.below hb)
    have HB := Lib.hid (below_after hb HB.out)
    clear hb
    obtain ⟨⟨qT0, qT1, qT2⟩, ⟨fT0, fT1, fT2⟩, zT⟩ := HT.out
    obtain ⟨⟨qR0, qR1, qR2, qR3, qR4, qR5, qR6, qR7, qR8⟩, ⟨fR0, fR1, fR2, fR3, fR4, fR5, fR6, fR7, fR8⟩, zR⟩ := HR.out
    go_wp2_with fail
    refine bodyPost_ret (v := .tuple #[.agg #[.int .i64 0, .int .i64 0, .int .i64 0, .int .i64 0, .int .i64 0, .int .i64 0, .int .i64 0, .int .i64 0, .int .i64 0], .int .i64 K]) (by simp (maxDischargeDepth := 8) [results, Try.results36, go_sem, *]) rfl ?_
    have hb := HB.out
    exact ⟨rfl, by (repeat' (first | (with_reducible exact Below.refl _ _) | (with_reducible refine Below.alloc ?_ ?_ _) | (with_reducible refine Below.setCell ?_ ?_ _) | (with_reducible refine Below.drew ?_) | (with_reducible refine below_drewN ?_ _) | (with_reducible assumption) | (with_reducible refine below_after (by with_reducible assumption) ?_) | go_size))⟩
end Go.Proofs.Ytbgifgfegndlkaa
