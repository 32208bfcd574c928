/-
  MatrixOfRun in the model (own work).
-/
import Derived.Test.YtbgifgfegndlkaaTrF
namespace Go.Proofs.Ytbgifgfegndlkaa
open Go.ChangeShapes Go.WideShapes Go.ChangeAt Go.RowKit
set_option linter.unusedVariables false
set_option linter.unusedSimpArgs false
set_option maxRecDepth 100000

set_option maxHeartbeats 12800000 in
theorem spec_MatrixOfRun_ok (k : Nat) (n : Nat) (a b c : Int) (LAST : Stn) (V : Value) (C : Int) (w : World) (HK : Hid (k < 4)) (HN : Hid (n ≤ 300)) (HS0 : Hid (isSt a b c = true)) (HL0 : Hid (∀ s', lastF s' (runL k n (s0S (a, b, c))) = LAST))
    (HRES : Hid ((fitS LAST = true → V = .agg #[.int .i64 LAST.2.1.1, .int .i64 LAST.2.1.2.1, .int .i64 LAST.2.1.2.2, .int .i64 LAST.2.2.1.1, .int .i64 LAST.2.2.1.2.1, .int .i64 LAST.2.2.1.2.2, .int .i64 LAST.2.2.2.1, .int .i64 LAST.2.2.2.2.1, .int .i64 LAST.2.2.2.2.2] ∧ C = 0) ∧ (fitS LAST = false → V = .agg #[.int .i64 0, .int .i64 0, .int .i64 0, .int .i64 0, .int .i64 0, .int .i64 0, .int .i64 0, .int .i64 0, .int .i64 0] ∧ C = 3)))
    (HC : Hid (∀ w, Calls Try.prog 59 #[.agg #[.int .i64 a, .int .i64 b, .int .i64 c], .int .i64 (k : Int)] w fun e w' => e = .returned (.int .i64 0) ∧ Below w.heap.size w w'))
    (HIN : Hid (∀ w, Calls Try.prog 65 #[.int .i64 (n : Int), .int .i64 0, .int .i64 300] w fun e w' => e = .returned (.bool true) ∧ w = w')) :
    Calls Try.prog 35 #[.agg #[.int .i64 a, .int .i64 b, .int .i64 c], .int .i64 (k : Int), .int .i64 (n : Int)] w fun e w' => e = .returned (.tuple #[V, .int .i64 C]) ∧ Below w.heap.size w w' := by
  obtain ⟨GT, hG⟩ : ∃ G, w.heap.size = G := ⟨_, rfl⟩
  have HG := Lib.hid hG
  go_enter Try.func35, Try.ntmps35
  go_upto_region 1 with fail
  obtain ⟨w0, hw0⟩ : ∃ w0, w0 = ((w.alloc (.cells #[.int .i64 a, .int .i64 b, .int .i64 c] 24)).alloc (.cells #[.int .i64 0, .int .i64 0, .int .i64 0, .int .i64 0, .int .i64 0, .int .i64 0, .int .i64 0, .int .i64 0, .int .i64 0] 43)) := ⟨_, rfl⟩
  rw [← hw0]
  have HT : Hid (Bk3 w0 GT a b c) := by
    have h := (bk3_new w a b c 24).below (W' := ((w.alloc (.cells #[.int .i64 a, .int .i64 b, .int .i64 c] 24)).alloc (.cells #[.int .i64 0, .int .i64 0, .int .i64 0, .int .i64 0, .int .i64 0, .int .i64 0, .int .i64 0, .int .i64 0, .int .i64 0] 43))) (by (repeat' (first | (with_reducible exact Below.refl _ _) | (with_reducible refine Below.alloc ?_ ?_ _) | (with_reducible refine Below.setCell ?_ ?_ _) | (with_reducible refine Below.drew ?_) | (with_reducible refine below_drewN ?_ _) | (with_reducible assumption) | (with_reducible refine below_after (by with_reducible assumption) ?_) | go_size)))
    (try simp only [World.size_alloc] at h)
    rw [hG] at h
    rw [hw0]; exact h
  have HR : Hid (Bk9 w0 (GT + 1) 0 0 0 0 0 0 0 0 0) := by
    have h := (bk9_new (w.alloc (.cells #[.int .i64 a, .int .i64 b, .int .i64 c] 24)) 0 0 0 0 0 0 0 0 0 43).below (W' := ((w.alloc (.cells #[.int .i64 a, .int .i64 b, .int .i64 c] 24)).alloc (.cells #[.int .i64 0, .int .i64 0, .int .i64 0, .int .i64 0, .int .i64 0, .int .i64 0, .int .i64 0, .int .i64 0, .int .i64 0] 43))) (by (repeat' (first | (with_reducible exact Below.refl _ _) | (with_reducible refine Below.alloc ?_ ?_ _) | (with_reducible refine Below.setCell ?_ ?_ _) | (with_reducible refine Below.drew ?_) | (with_reducible refine below_drewN ?_ _) | (with_reducible assumption) | (with_reducible refine below_after (by with_reducible assumption) ?_) | go_size)))
    (try simp only [World.size_alloc] at h)
    rw [hG] at h
    rw [hw0]; exact h
  have HB : Hid (Below w.heap.size w w0) := by show Below w.heap.size w w0; rw [hw0]; (repeat' (first | (with_reducible exact Below.refl _ _) | (with_reducible refine Below.alloc ?_ ?_ _) | (with_reducible refine Below.setCell ?_ ?_ _) | (with_reducible refine Below.drew ?_) | (with_reducible refine below_drewN ?_ _) | (with_reducible assumption) | (with_reducible refine below_after (by with_reducible assumption) ?_) | go_size))
  clear hw0
  obtain ⟨GR, hGR⟩ : ∃ g, GT + 1 = g := ⟨_, rfl⟩
  rw [hGR] at HR ⊢
  have le_T : w.heap.size ≤ GT := by omega
  have le_R : w.heap.size ≤ GR := by omega
  have ne_R_T : GR ≠ GT := by omega
  have ne_T_R : GT ≠ GR := by omega
  clear hGR
  obtain ⟨⟨qT0, qT1, qT2⟩, ⟨fT0, fT1, fT2⟩, zT⟩ := HT.out
  obtain ⟨⟨qR0, qR1, qR2, qR3, qR4, qR5, qR6, qR7, qR8⟩, ⟨fR0, fR1, fR2, fR3, fR4, fR5, fR6, fR7, fR8⟩, zR⟩ := HR.out
  go_wp2_with fail
  go_at_call 59
  refine (HC.out _).mono ?_
  rintro e w1 ⟨rfl, hb⟩
  clear qT0 fT0 qT1 fT1 qT2 fT2 zT qR0 fR0 qR1 fR1 qR2 fR2 qR3 fR3 qR4 fR4 qR5 fR5 qR6 fR6 qR7 fR7 qR8 fR8 zR
  have HT := Lib.hid (HT.out.below hb)
  have HR := Lib.hid (HR.out.below hb)
  have HB := Lib.hid (below_after hb HB.out)
  clear hb
  obtain ⟨⟨qT0, qT1, qT2⟩, ⟨fT0, fT1, fT2⟩, zT⟩ := HT.out
  obtain ⟨⟨qR0, qR1, qR2, qR3, qR4, qR5, qR6, qR7, qR8⟩, ⟨fR0, fR1, fR2, fR3, fR4, fR5, fR6, fR7, fR8⟩, zR⟩ := HR.out
  go_upto_region 6 with (go_at_call 65; refine (HIN.out _).mono ?_; rintro e wn ⟨rfl, rfl⟩)
  clear qT0 fT0 qT1 fT1 qT2 fT2 zT qR0 fR0 qR1 fR1 qR2 fR2 qR3 fR3 qR4 fR4 qR5 fR5 qR6 fR6 qR7 fR7 qR8 fR8 zR
  obtain ⟨⟨qT0, qT1, qT2⟩, ⟨fT0, fT1, fT2⟩, zT⟩ := HT.out
  obtain ⟨⟨qR0, qR1, qR2, qR3, qR4, qR5, qR6, qR7, qR8⟩, ⟨fR0, fR1, fR2, fR3, fR4, fR5, fR6, fR7, fR8⟩, zR⟩ := HR.out
  go_upto_region 7 with fail
  obtain ⟨GQ, hGQ⟩ : ∃ g, w1.heap.size = g := ⟨_, rfl⟩
  obtain ⟨w2, hw2⟩ : ∃ wx, wx = w1.alloc (.cells #[.int .i64 1, .int .i64 0, .int .i64 0, .int .i64 0, .int .i64 1, .int .i64 0, .int .i64 0, .int .i64 0, .int .i64 1] 43) := ⟨_, rfl⟩
  rw [← hw2, hGQ]
  have HQ : Hid (Bk9 w2 GQ 1 0 0 0 1 0 0 0 1) := by rw [hw2, ← hGQ]; exact bk9_new w1 1 0 0 0 1 0 0 0 1 _
  have le_Q : w.heap.size ≤ GQ := by rw [← hGQ]; exact HB.out.size
  have ne_Q_T : GQ ≠ GT := by have := HT.out.2.2; omega
  have ne_T_Q : GT ≠ GQ := Ne.symm ne_Q_T
  have ne_Q_R : GQ ≠ GR := by have := HR.out.2.2; omega
  have ne_R_Q : GR ≠ GQ := Ne.symm ne_Q_R
  clear qT0 fT0 qT1 fT1 qT2 fT2 zT qR0 fR0 qR1 fR1 qR2 fR2 qR3 fR3 qR4 fR4 qR5 fR5 qR6 fR6 qR7 fR7 qR8 fR8 zR
  have HT := Lib.hid (HT.out.below ((Below.refl _ _).alloc (Nat.le_refl _) (.cells #[.int .i64 1, .int .i64 0, .int .i64 0, .int .i64 0, .int .i64 1, .int .i64 0, .int .i64 0, .int .i64 0, .int .i64 1] 43)))
  have HR := Lib.hid (HR.out.below ((Below.refl _ _).alloc (Nat.le_refl _) (.cells #[.int .i64 1, .int .i64 0, .int .i64 0, .int .i64 0, .int .i64 1, .int .i64 0, .int .i64 0, .int .i64 0, .int .i64 1] 43)))
  have HB := Lib.hid (Below.alloc HB.out HB.out.size (.cells #[.int .i64 1, .int .i64 0, .int .i64 0, .int .i64 0, .int .i64 1, .int .i64 0, .int .i64 0, .int .i64 0, .int .i64 1] 43))
  rw [← hw2] at HT HR HB
  clear hw2 hGQ
  have HNE := Lib.hid (And.intro ne_Q_T (And.intro ne_T_Q (And.intro ne_Q_R (And.intro ne_R_Q (And.intro ne_T_R (And.intro ne_R_T (And.intro le_T (And.intro le_R le_Q))))))))
  go_loopw [2] (fun y wr => ∃ (m : Nat) (a b c q0 q1 q2 q3 q4 q5 q6 q7 q8 : Int), y = .int .i64 (m : Int) ∧ m ≤ 300 ∧ isSt a b c = true ∧ fitS ((a, b, c), (q0, q1, q2), (q3, q4, q5), (q6, q7, q8)) = true ∧ (∀ s', lastF s' (runL k m ((a, b, c), (q0, q1, q2), (q3, q4, q5), (q6, q7, q8))) = LAST) ∧ Bk3 wr GT a b c ∧ Bk9 wr GQ q0 q1 q2 q3 q4 q5 q6 q7 q8 ∧ Bk9 wr GR 0 0 0 0 0 0 0 0 0 ∧ Below w.heap.size w wr) (fun y _ => (intOf y).toNat)
  case atStart => exact ⟨n, a, b, c, 1, 0, 0, 0, 1, 0, 0, 0, 1, rfl, HN.out, HS0.out, rfl, HL0.out, HT.out, HQ.out, HR.out, HB.out⟩
  case round =>
    obtain ⟨m, a, b, c, q0, q1, q2, q3, q4, q5, q6, q7, q8, rfl, hm, hs, hfit, hl, hT, hQ, hR, hbel⟩ := hrel
    clear HT HQ HR HB HS0 HL0
    have HT := Lib.hid hT
    have HQ := Lib.hid hQ
    have HR := Lib.hid hR
    have HB := Lib.hid hbel
    have HS := Lib.hid hs
    have HL := Lib.hid hl
    have HFI := Lib.hid hfit
    clear hT hQ hR hbel hs hl hfit
    obtain ⟨ne_Q_T, ne_T_Q, ne_Q_R, ne_R_Q, ne_T_R, ne_R_T, le_T, le_R, le_Q⟩ := HNE.out
    have HEND := Lib.hid (fun w => l07Ended_any k a b c w HK.out)
    by_cases hm0 : m = 0
    · skip
      have HL2 := HL.out s00
      rw [runL_end (k := k) (n := m) (s := ((a, b, c), (q0, q1, q2), (q3, q4, q5), (q6, q7, q8))) (.inl hm0)] at HL2
      have HE : Hid (V = .agg #[.int .i64 q0, .int .i64 q1, .int .i64 q2, .int .i64 q3, .int .i64 q4, .int .i64 q5, .int .i64 q6, .int .i64 q7, .int .i64 q8] ∧ C = 0) := by
        have e : LAST = ((a, b, c), (q0, q1, q2), (q3, q4, q5), (q6, q7, q8)) := HL2.symm
        have hr := HRES.out.1 (by rw [e]; exact HFI.out)
        rw [e] at hr
        exact hr
      clear HL2
      subst hm0
      rw [show ((0 : Nat) : Int) = 0 from rfl]
      obtain ⟨⟨qT0, qT1, qT2⟩, ⟨fT0, fT1, fT2⟩, zT⟩ := HT.out
      obtain ⟨⟨qQ0, qQ1, qQ2, qQ3, qQ4, qQ5, qQ6, qQ7, qQ8⟩, ⟨fQ0, fQ1, fQ2, fQ3, fQ4, fQ5, fQ6, fQ7, fQ8⟩, zQ⟩ := HQ.out
      obtain ⟨⟨qR0, qR1, qR2, qR3, qR4, qR5, qR6, qR7, qR8⟩, ⟨fR0, fR1, fR2, fR3, fR4, fR5, fR6, fR7, fR8⟩, zR⟩ := HR.out
      go_wp2_with fail
      refine bodyPost_ret (v := .tuple #[.agg #[.int .i64 q0, .int .i64 q1, .int .i64 q2, .int .i64 q3, .int .i64 q4, .int .i64 q5, .int .i64 q6, .int .i64 q7, .int .i64 q8], .int .i64 0]) (by simp (maxDischargeDepth := 8) [results, Try.results35, go_sem, *]) rfl ?_
      have hb := HB.out
      exact ⟨by rw [HE.out.1, HE.out.2], by (repeat' (first | (with_reducible exact Below.refl _ _) | (with_reducible refine Below.alloc ?_ ?_ _) | (with_reducible refine Below.setCell ?_ ?_ _) | (with_reducible refine Below.drew ?_) | (with_reducible refine below_drewN ?_ _) | (with_reducible assumption) | (with_reducible refine below_after (by with_reducible assumption) ?_) | go_size))⟩
    · have hpos : 0 < (m : Int) := by omega
      have HM1 : Hid (0 < m) := by show _ < _; omega
      cases he : rEnd k b c
      · rw [he] at HEND
        obtain ⟨B0a, B0b, B0c⟩ := isSt_B HS.out
        have HMAT := Lib.hid (fun w => l07Matrix_any k a b c w HK.out B0a B0b B0c)
        have HSTEP := Lib.hid (fun w => l07Step_any k a b c w HK.out B0a B0b B0c)
        have hl3 : lt3 (od (rSub k a b c).1 (rSub k a b c).2.1 (rSub k a b c).2.2) := od_lt _ _ _
        have hnn : nnS ((a, b, c), (q0, q1, q2), (q3, q4, q5), (q6, q7, q8)) := by
          have h := HFI.out
          simp only [fitS, fitR, Bool.and_eq_true, wh_iff] at h
          obtain ⟨⟨⟨⟨h0, h1⟩, h2⟩, ⟨h3, h4⟩, h5⟩, ⟨h6, h7⟩, h8⟩ := h
          exact ⟨⟨h0.1, h1.1, h2.1⟩, ⟨h3.1, h4.1, h5.1⟩, h6.1, h7.1, h8.1⟩
        have HTIM := Lib.hid (fun w => l07Times_any q0 q1 q2 q3 q4 q5 q6 q7 q8 (mtF (ownF k) (od (rSub k a b c).1 (rSub k a b c).2.1 (rSub k a b c).2.2) 0) (mtF (ownF k) (od (rSub k a b c).1 (rSub k a b c).2.1 (rSub k a b c).2.2) 1) (mtF (ownF k) (od (rSub k a b c).1 (rSub k a b c).2.1 (rSub k a b c).2.2) 2) (mtF (ownF k) (od (rSub k a b c).1 (rSub k a b c).2.1 (rSub k a b c).2.2) 3) (mtF (ownF k) (od (rSub k a b c).1 (rSub k a b c).2.1 (rSub k a b c).2.2) 4) (mtF (ownF k) (od (rSub k a b c).1 (rSub k a b c).2.1 (rSub k a b c).2.2) 5) (mtF (ownF k) (od (rSub k a b c).1 (rSub k a b c).2.1 (rSub k a b c).2.2) 6) (mtF (ownF k) (od (rSub k a b c).1 (rSub k a b c).2.1 (rSub k a b c).2.2) 7) (mtF (ownF k) (od (rSub k a b c).1 (rSub k a b c).2.1 (rSub k a b c).2.2) 8) w (fit9_b (by rw [fit9_S a b c]; exact HFI.out)) (fun c hc => by rw [nine_F _ hc]; exact mtF_b HK.out hl3 hc))
        rw [times_next HK.out a b c q0 q1 q2 q3 q4 q5 q6 q7 q8] at HTIM
        unfold ag9 at HMAT
        generalize mtF (ownF k) (od (rSub k a b c).1 (rSub k a b c).2.1 (rSub k a b c).2.2) = FM at *
        generalize FM 0 = f0 at *
        generalize FM 1 = f1 at *
        generalize FM 2 = f2 at *
        generalize FM 3 = f3 at *
        generalize FM 4 = f4 at *
        generalize FM 5 = f5 at *
        generalize FM 6 = f6 at *
        generalize FM 7 = f7 at *
        generalize FM 8 = f8 at *
        have hl2 : ∀ s', lastF s' (runL k (m - 1) (nxS k ((a, b, c), (q0, q1, q2), (q3, q4, q5), (q6, q7, q8)))) = LAST := by
          intro s'
          have h := HL.out s'
          rw [runL_next (k := k) (n := m) (s := ((a, b, c), (q0, q1, q2), (q3, q4, q5), (q6, q7, q8))) hm0 he] at h
          obtain ⟨l, hl⟩ : ∃ s l, runL k (m - 1) (nxS k ((a, b, c), (q0, q1, q2), (q3, q4, q5), (q6, q7, q8))) = s :: l := by
            have hlen := (runL_len k (m - 1) (nxS k ((a, b, c), (q0, q1, q2), (q3, q4, q5), (q6, q7, q8)))).1
            cases hc : runL k (m - 1) (nxS k ((a, b, c), (q0, q1, q2), (q3, q4, q5), (q6, q7, q8))) with
            | nil => rw [hc] at hlen; simp at hlen
            | cons s l => exact ⟨s, l, rfl⟩
          obtain ⟨l2, hl⟩ := hl
          rw [hl] at h ⊢
          exact h
        have hup := stn_up HK.out hnn
        have HS2 := Lib.hid (nxT_sorted HK.out HS.out he)
        have hnx : nxS k ((a, b, c), (q0, q1, q2), (q3, q4, q5), (q6, q7, q8)) = (stT k a b c, nxR k (a, b, c) (q0, q1, q2), nxR k (a, b, c) (q3, q4, q5), nxR k (a, b, c) (q6, q7, q8)) := rfl
        rw [hnx] at hl2 hup
        obtain ⟨⟨a', b', c'⟩, h0⟩ : ∃ s, stT k a b c = s := ⟨_, rfl⟩
        obtain ⟨⟨p0, p1, p2⟩, h1⟩ : ∃ s, nxR k (a, b, c) (q0, q1, q2) = s := ⟨_, rfl⟩
        obtain ⟨⟨p3, p4, p5⟩, h2⟩ : ∃ s, nxR k (a, b, c) (q3, q4, q5) = s := ⟨_, rfl⟩
        obtain ⟨⟨p6, p7, p8⟩, h3⟩ : ∃ s, nxR k (a, b, c) (q6, q7, q8) = s := ⟨_, rfl⟩
        rw [h0] at hl2 hup HS2 HSTEP
        rw [h1, h2, h3] at hl2 hup HTIM
        simp only at HS2 HSTEP HTIM
        have HL2 := Lib.hid hl2
        have HFITS := Lib.hid (fun w => l07Fits_any p0 p1 p2 p3 p4 p5 p6 p7 p8 w)
        rw [fit9_S a' b' c'] at HFITS
        have hnn2 := hup.1
        clear he hnx h0 h1 h2 h3 hl2 hup hl3 hnn B0a B0b B0c
        obtain ⟨⟨qT0, qT1, qT2⟩, ⟨fT0, fT1, fT2⟩, zT⟩ := HT.out
        obtain ⟨⟨qQ0, qQ1, qQ2, qQ3, qQ4, qQ5, qQ6, qQ7, qQ8⟩, ⟨fQ0, fQ1, fQ2, fQ3, fQ4, fQ5, fQ6, fQ7, fQ8⟩, zQ⟩ := HQ.out
        obtain ⟨⟨qR0, qR1, qR2, qR3, qR4, qR5, qR6, qR7, qR8⟩, ⟨fR0, fR1, fR2, fR3, fR4, fR5, fR6, fR7, fR8⟩, zR⟩ := HR.out
        go_wp2_with fail
        go_at_call 64
        refine (HEND.out _).mono ?_
        rintro e w21 ⟨rfl, hb⟩
        clear qT0 fT0 qT1 fT1 qT2 fT2 zT qQ0 fQ0 qQ1 fQ1 qQ2 fQ2 qQ3 fQ3 qQ4 fQ4 qQ5 fQ5 qQ6 fQ6 qQ7 fQ7 qQ8 fQ8 zQ qR0 fR0 qR1 fR1 qR2 fR2 qR3 fR3 qR4 fR4 qR5 fR5 qR6 fR6 qR7 fR7 qR8 fR8 zR
        have HT := Lib.hid (HT.out.below hb)
        have HQ := Lib.hid (HQ.out.below hb)
        have HR := Lib.hid (HR.out.below hb)
        have HB := Lib.hid (below_after hb HB.out)
        clear hb
        go_wp2_with fail
        refine wp_region_held_drew (S := fun W => Below w.heap.size w W ∧ Bk3 W GT a b c ∧ Bk9 W GR 0 0 0 0 0 0 0 0 0) (by kernel_rfl) ?_ (fun hHeld => ?_); focus ((try dsimp only); exact ⟨Below.drew HB.out, HT.out.below (Below.drew (Below.refl _ _)), HR.out.below (Below.drew (Below.refl _ _))⟩)
        have HT := Lib.hid (HT.out.below (Below.drew (Below.refl _ _)))
        have HQ := Lib.hid (HQ.out.below (Below.drew (Below.refl _ _)))
        have HR := Lib.hid (HR.out.below (Below.drew (Below.refl _ _)))
        have hHeld : (fun W => Below w.heap.size w W ∧ Bk3 W GT a b c ∧ Bk9 W GR 0 0 0 0 0 0 0 0 0) _ := hHeld
        obtain ⟨wD21, hwD21⟩ : ∃ wD, w21.drew = wD := ⟨_, rfl⟩
        rw [hwD21] at hHeld HT HQ HR ⊢
        clear hwD21
        (refine wpAnyH_take (i := 1) (v := ?_) rfl (by kernel_rfl) (by kernel_rfl) (by kernel_rfl) (fun _ _ _ h => h) (Or.inl ⟨rfl, ?_⟩) (by assumption) ?_; rotate_left; focus (intro W hSw; (try dsimp only at hSw); obtain ⟨hSb, hxT, hxR⟩ := hSw; obtain ⟨⟨iT0, iT1, iT2⟩, _, _⟩ := hxT; obtain ⟨⟨iR0, iR1, iR2, iR3, iR4, iR5, iR6, iR7, iR8⟩, _, _⟩ := hxR; go_simp; try (with_reducible rfl))); (try simp only [Act.put, List.getElem_toArray, List.getElem_cons_succ, List.getElem_cons_zero, List.setIfInBounds_toArray, List.set_cons_zero, List.set_cons_succ])
        (refine wpAnyH_take (i := 2) (v := ?_) rfl (by kernel_rfl) (by kernel_rfl) (by kernel_rfl) (fun _ _ _ h => h) (Or.inl ⟨rfl, ?_⟩) (by assumption) ?_; rotate_left; focus (intro W hSw; (try dsimp only at hSw); obtain ⟨hSb, hxT, hxR⟩ := hSw; obtain ⟨⟨iT0, iT1, iT2⟩, _, _⟩ := hxT; obtain ⟨⟨iR0, iR1, iR2, iR3, iR4, iR5, iR6, iR7, iR8⟩, _, _⟩ := hxR; go_simp; try (with_reducible rfl))); (try simp only [Act.put, List.getElem_toArray, List.getElem_cons_succ, List.getElem_cons_zero, List.setIfInBounds_toArray, List.set_cons_zero, List.set_cons_succ])
        refine wpAnyH_ready (rs := [0, 3]) (by kernel_rfl) (by simp) ?_; refine AllReadyH.cons rfl (fun K hK => ?_) (AllReadyH.cons rfl (fun K hK => ?_) AllReadyH.nil)
        · skip
          obtain ⟨⟨iQ0, iQ1, iQ2, iQ3, iQ4, iQ5, iQ6, iQ7, iQ8⟩, _, jQ⟩ := HQ.out; go_simp; clear iQ0 iQ1 iQ2 iQ3 iQ4 iQ5 iQ6 iQ7 iQ8 jQ; refine hK.out _ _ hHeld (fun hHeld2 => ?_); (clear hHeld; rename _ => hHeld; clear hK K; have hHeld : (fun W => Below w.heap.size w W ∧ Bk3 W GT a b c ∧ Bk9 W GR 0 0 0 0 0 0 0 0 0) _ := hHeld); (try simp only [Act.put, List.getElem_toArray, List.getElem_cons_succ, List.getElem_cons_zero, List.setIfInBounds_toArray, List.set_cons_zero, List.set_cons_succ])
          refine wpAnyH_ready (rs := [3]) (by kernel_rfl) (by simp) ?_; refine AllReadyH.cons rfl (fun K hK => ?_) AllReadyH.nil
          go_simp; (go_at_call 70; refine (HMAT.out _).mono ?_; rintro en ywr21x1 ⟨rfl, hb2⟩); have HT := Lib.hid (HT.out.below hb2); have HQ := Lib.hid (HQ.out.below hb2); have HR := Lib.hid (HR.out.below hb2); refine hK.out _ _ ⟨below_after hb2 hHeld.1, HT.out, HR.out⟩ (fun hHeld2 => ?_); clear hb2; (clear hHeld; rename _ => hHeld; clear hK K; have hHeld : (fun W => Below w.heap.size w W ∧ Bk3 W GT a b c ∧ Bk9 W GR 0 0 0 0 0 0 0 0 0) _ := hHeld); (try simp only [Act.put, List.getElem_toArray, List.getElem_cons_succ, List.getElem_cons_zero, List.setIfInBounds_toArray, List.set_cons_zero, List.set_cons_succ])
          refine wpAnyH_ready (rs := [4]) (by kernel_rfl) (by simp) ?_; refine AllReadyH.cons rfl (fun K hK => ?_) AllReadyH.nil
          go_simp; (go_at_call 69; refine (HTIM.out _).mono ?_; rintro en ywr21x2 ⟨rfl, hb2⟩); have HT := Lib.hid (HT.out.below hb2); have HQ := Lib.hid (HQ.out.below hb2); have HR := Lib.hid (HR.out.below hb2); refine hK.out _ _ ⟨below_after hb2 hHeld.1, HT.out, HR.out⟩ (fun hHeld2 => ?_); clear hb2; (clear hHeld; rename _ => hHeld; clear hK K; have hHeld : (fun W => Below w.heap.size w W ∧ Bk3 W GT a b c ∧ Bk9 W GR 0 0 0 0 0 0 0 0 0) _ := hHeld); (try simp only [Act.put, List.getElem_toArray, List.getElem_cons_succ, List.getElem_cons_zero, List.setIfInBounds_toArray, List.set_cons_zero, List.set_cons_succ])
          refine wpAnyH_ready (rs := [5]) (by kernel_rfl) (by simp) ?_; refine AllReadyH.cons rfl (fun K hK => ?_) AllReadyH.nil
          obtain ⟨⟨a0, a1, a2, a3, a4, a5, a6, a7, a8⟩, ⟨f0, f1, f2, f3, f4, f5, f6, f7, f8⟩, az⟩ := HQ.out; go_simp; clear a0 f0 a1 f1 a2 f2 a3 f3 a4 f4 a5 f5 a6 f6 a7 f7 a8 f8 az
          have HT := Lib.hid (((((((((HT.out.far ⟨GQ, 0, none⟩ (.int .i64 p0) (by show GT ≠ GQ; exact ne_T_Q)).far ⟨GQ, 1, none⟩ (.int .i64 p1) (by show GT ≠ GQ; exact ne_T_Q)).far ⟨GQ, 2, none⟩ (.int .i64 p2) (by show GT ≠ GQ; exact ne_T_Q)).far ⟨GQ, 3, none⟩ (.int .i64 p3) (by show GT ≠ GQ; exact ne_T_Q)).far ⟨GQ, 4, none⟩ (.int .i64 p4) (by show GT ≠ GQ; exact ne_T_Q)).far ⟨GQ, 5, none⟩ (.int .i64 p5) (by show GT ≠ GQ; exact ne_T_Q)).far ⟨GQ, 6, none⟩ (.int .i64 p6) (by show GT ≠ GQ; exact ne_T_Q)).far ⟨GQ, 7, none⟩ (.int .i64 p7) (by show GT ≠ GQ; exact ne_T_Q)).far ⟨GQ, 8, none⟩ (.int .i64 p8) (by show GT ≠ GQ; exact ne_T_Q))
          have HR := Lib.hid (((((((((HR.out.far ⟨GQ, 0, none⟩ (.int .i64 p0) (by show GR ≠ GQ; exact ne_R_Q)).far ⟨GQ, 1, none⟩ (.int .i64 p1) (by show GR ≠ GQ; exact ne_R_Q)).far ⟨GQ, 2, none⟩ (.int .i64 p2) (by show GR ≠ GQ; exact ne_R_Q)).far ⟨GQ, 3, none⟩ (.int .i64 p3) (by show GR ≠ GQ; exact ne_R_Q)).far ⟨GQ, 4, none⟩ (.int .i64 p4) (by show GR ≠ GQ; exact ne_R_Q)).far ⟨GQ, 5, none⟩ (.int .i64 p5) (by show GR ≠ GQ; exact ne_R_Q)).far ⟨GQ, 6, none⟩ (.int .i64 p6) (by show GR ≠ GQ; exact ne_R_Q)).far ⟨GQ, 7, none⟩ (.int .i64 p7) (by show GR ≠ GQ; exact ne_R_Q)).far ⟨GQ, 8, none⟩ (.int .i64 p8) (by show GR ≠ GQ; exact ne_R_Q))
          have HQ := Lib.hid (((((((((HQ.out.set0 p0).set1 p1).set2 p2).set3 p3).set4 p4).set5 p5).set6 p6).set7 p7).set8 p8)
          refine hK.out _ _ ⟨(Below.setCell (Below.setCell (Below.setCell (Below.setCell (Below.setCell (Below.setCell (Below.setCell (Below.setCell (Below.setCell hHeld.1 (p := ⟨GQ, 0, none⟩) le_Q _) (p := ⟨GQ, 1, none⟩) le_Q _) (p := ⟨GQ, 2, none⟩) le_Q _) (p := ⟨GQ, 3, none⟩) le_Q _) (p := ⟨GQ, 4, none⟩) le_Q _) (p := ⟨GQ, 5, none⟩) le_Q _) (p := ⟨GQ, 6, none⟩) le_Q _) (p := ⟨GQ, 7, none⟩) le_Q _) (p := ⟨GQ, 8, none⟩) le_Q _), HT.out, HR.out⟩ (fun hHeld2 => ?_); (clear hHeld; rename _ => hHeld; clear hK K; have hHeld : (fun W => Below w.heap.size w W ∧ Bk3 W GT a b c ∧ Bk9 W GR 0 0 0 0 0 0 0 0 0) _ := hHeld); (try simp only [Act.put, List.getElem_toArray, List.getElem_cons_succ, List.getElem_cons_zero, List.setIfInBounds_toArray, List.set_cons_zero, List.set_cons_succ])
          obtain ⟨ywr21x3, hwx⟩ : ∃ wx, ((((((((ywr21x2.setCell ⟨GQ, 0, none⟩ (.int .i64 p0)).setCell ⟨GQ, 1, none⟩ (.int .i64 p1)).setCell ⟨GQ, 2, none⟩ (.int .i64 p2)).setCell ⟨GQ, 3, none⟩ (.int .i64 p3)).setCell ⟨GQ, 4, none⟩ (.int .i64 p4)).setCell ⟨GQ, 5, none⟩ (.int .i64 p5)).setCell ⟨GQ, 6, none⟩ (.int .i64 p6)).setCell ⟨GQ, 7, none⟩ (.int .i64 p7)).setCell ⟨GQ, 8, none⟩ (.int .i64 p8) = wx := ⟨_, rfl⟩; rw [hwx] at HT HQ HR hHeld ⊢; clear hwx
          refine wpAnyH_done (by kernel_rfl) ?_ _
          have HB := Lib.hid (hHeld.1)
          clear hHeld
          cases hf : fitS ((a', b', c'), (p0, p1, p2), (p3, p4, p5), (p6, p7, p8))
          · rw [hf] at HFITS
            have HE : Hid (V = .agg #[.int .i64 0, .int .i64 0, .int .i64 0, .int .i64 0, .int .i64 0, .int .i64 0, .int .i64 0, .int .i64 0, .int .i64 0] ∧ C = 3) := by
              have h := fit_last HK.out (m - 1) ((a', b', c'), (p0, p1, p2), (p3, p4, p5), (p6, p7, p8)) s00 hnn2 hf
              rw [HL2.out s00] at h
              exact HRES.out.2 h
            clear hf hnn2
            obtain ⟨⟨qT0, qT1, qT2⟩, ⟨fT0, fT1, fT2⟩, zT⟩ := HT.out
            obtain ⟨⟨qQ0, qQ1, qQ2, qQ3, qQ4, qQ5, qQ6, qQ7, qQ8⟩, ⟨fQ0, fQ1, fQ2, fQ3, fQ4, fQ5, fQ6, fQ7, fQ8⟩, zQ⟩ := HQ.out
            obtain ⟨⟨qR0, qR1, qR2, qR3, qR4, qR5, qR6, qR7, qR8⟩, ⟨fR0, fR1, fR2, fR3, fR4, fR5, fR6, fR7, fR8⟩, zR⟩ := HR.out
            go_wp2_with fail
            go_at_call 71
            refine (HFITS.out _).mono ?_
            rintro e w81 ⟨rfl, hb⟩
            clear qT0 fT0 qT1 fT1 qT2 fT2 zT qQ0 fQ0 qQ1 fQ1 qQ2 fQ2 qQ3 fQ3 qQ4 fQ4 qQ5 fQ5 qQ6 fQ6 qQ7 fQ7 qQ8 fQ8 zQ qR0 fR0 qR1 fR1 qR2 fR2 qR3 fR3 qR4 fR4 qR5 fR5 qR6 fR6 qR7 fR7 qR8 fR8 zR
            have HT := Lib.hid (HT.out.below hb)
            have HQ := Lib.hid (HQ.out.below hb)
            have HR := Lib.hid (HR.out.below hb)
            have HB := Lib.hid (below_after hb HB.out)
            clear hb
            obtain ⟨⟨qT0, qT1, qT2⟩, ⟨fT0, fT1, fT2⟩, zT⟩ := HT.out
            obtain ⟨⟨qQ0, qQ1, qQ2, qQ3, qQ4, qQ5, qQ6, qQ7, qQ8⟩, ⟨fQ0, fQ1, fQ2, fQ3, fQ4, fQ5, fQ6, fQ7, fQ8⟩, zQ⟩ := HQ.out
            obtain ⟨⟨qR0, qR1, qR2, qR3, qR4, qR5, qR6, qR7, qR8⟩, ⟨fR0, fR1, fR2, fR3, fR4, fR5, fR6, fR7, fR8⟩, zR⟩ := HR.out
            go_wp2_with fail
            refine bodyPost_ret (v := .tuple #[.agg #[.int .i64 0, .int .i64 0, .int .i64 0, .int .i64 0, .int .i64 0, .int .i64 0, .int .i64 0, .int .i64 0, .int .i64 0], .int .i64 3]) (by simp (maxDischargeDepth := 8) [results, Try.results35, go_sem, *]) rfl ?_
            have hb := HB.out
            exact ⟨by rw [HE.out.1, HE.out.2], by (repeat' (first | (with_reducible exact Below.refl _ _) | (with_reducible refine Below.alloc ?_ ?_ _) | (with_reducible refine Below.setCell ?_ ?_ _) | (with_reducible refine Below.drew ?_) | (with_reducible refine below_drewN ?_ _) | (with_reducible assumption) | (with_reducible refine below_after (by with_reducible assumption) ?_) | go_size))⟩
          · rw [hf] at HFITS
            have HF2 := Lib.hid hf
            clear hf hnn2
            obtain ⟨⟨qT0, qT1, qT2⟩, ⟨fT0, fT1, fT2⟩, zT⟩ := HT.out
            obtain ⟨⟨qQ0, qQ1, qQ2, qQ3, qQ4, qQ5, qQ6, qQ7, qQ8⟩, ⟨fQ0, fQ1, fQ2, fQ3, fQ4, fQ5, fQ6, fQ7, fQ8⟩, zQ⟩ := HQ.out
            obtain ⟨⟨qR0, qR1, qR2, qR3, qR4, qR5, qR6, qR7, qR8⟩, ⟨fR0, fR1, fR2, fR3, fR4, fR5, fR6, fR7, fR8⟩, zR⟩ := HR.out
            go_wp2_with fail
            go_at_call 71
            refine (HFITS.out _).mono ?_
            rintro e w91 ⟨rfl, hb⟩
            clear qT0 fT0 qT1 fT1 qT2 fT2 zT qQ0 fQ0 qQ1 fQ1 qQ2 fQ2 qQ3 fQ3 qQ4 fQ4 qQ5 fQ5 qQ6 fQ6 qQ7 fQ7 qQ8 fQ8 zQ qR0 fR0 qR1 fR1 qR2 fR2 qR3 fR3 qR4 fR4 qR5 fR5 qR6 fR6 qR7 fR7 qR8 fR8 zR
            have HT := Lib.hid (HT.out.below hb)
            have HQ := Lib.hid (HQ.out.below hb)
            have HR := Lib.hid (HR.out.below hb)
            have HB := Lib.hid (below_after hb HB.out)
            clear hb
            obtain ⟨⟨qT0, qT1, qT2⟩, ⟨fT0, fT1, fT2⟩, zT⟩ := HT.out
            obtain ⟨⟨qQ0, qQ1, qQ2, qQ3, qQ4, qQ5, qQ6, qQ7, qQ8⟩, ⟨fQ0, fQ1, fQ2, fQ3, fQ4, fQ5, fQ6, fQ7, fQ8⟩, zQ⟩ := HQ.out
            obtain ⟨⟨qR0, qR1, qR2, qR3, qR4, qR5, qR6, qR7, qR8⟩, ⟨fR0, fR1, fR2, fR3, fR4, fR5, fR6, fR7, fR8⟩, zR⟩ := HR.out
            go_wp2_with fail
            go_at_call 60
            refine (HSTEP.out _).mono ?_
            rintro e w92 ⟨rfl, hb⟩
            clear qT0 fT0 qT1 fT1 qT2 fT2 zT qQ0 fQ0 qQ1 fQ1 qQ2 fQ2 qQ3 fQ3 qQ4 fQ4 qQ5 fQ5 qQ6 fQ6 qQ7 fQ7 qQ8 fQ8 zQ qR0 fR0 qR1 fR1 qR2 fR2 qR3 fR3 qR4 fR4 qR5 fR5 qR6 fR6 qR7 fR7 qR8 fR8 zR
            have HT := Lib.hid (HT.out.below hb)
            have HQ := Lib.hid (HQ.out.below hb)
            have HR := Lib.hid (HR.out.below hb)
            have HB := Lib.hid (below_after hb HB.out)
            clear hb
            obtain ⟨⟨qT0, qT1, qT2⟩, ⟨fT0, fT1, fT2⟩, zT⟩ := HT.out
            obtain ⟨⟨qQ0, qQ1, qQ2, qQ3, qQ4, qQ5, qQ6, qQ7, qQ8⟩, ⟨fQ0, fQ1, fQ2, fQ3, fQ4, fQ5, fQ6, fQ7, fQ8⟩, zQ⟩ := HQ.out
            obtain ⟨⟨qR0, qR1, qR2, qR3, qR4, qR5, qR6, qR7, qR8⟩, ⟨fR0, fR1, fR2, fR3, fR4, fR5, fR6, fR7, fR8⟩, zR⟩ := HR.out
            go_upto_region 8 with fail
            obtain ⟨w93, hw93⟩ : ∃ wx, wx = (((w92.setCell ⟨GT, 0, none⟩ (.int .i64 a')).setCell ⟨GT, 1, none⟩ (.int .i64 b')).setCell ⟨GT, 2, none⟩ (.int .i64 c')) := ⟨_, rfl⟩
            rw [← hw93]
            clear qT0 fT0 qT1 fT1 qT2 fT2 zT qQ0 fQ0 qQ1 fQ1 qQ2 fQ2 qQ3 fQ3 qQ4 fQ4 qQ5 fQ5 qQ6 fQ6 qQ7 fQ7 qQ8 fQ8 zQ qR0 fR0 qR1 fR1 qR2 fR2 qR3 fR3 qR4 fR4 qR5 fR5 qR6 fR6 qR7 fR7 qR8 fR8 zR
            have HQ := Lib.hid (((HQ.out.far ⟨GT, 0, none⟩ (.int .i64 a') (by show GQ ≠ GT; exact ne_Q_T)).far ⟨GT, 1, none⟩ (.int .i64 b') (by show GQ ≠ GT; exact ne_Q_T)).far ⟨GT, 2, none⟩ (.int .i64 c') (by show GQ ≠ GT; exact ne_Q_T))
            have HR := Lib.hid (((HR.out.far ⟨GT, 0, none⟩ (.int .i64 a') (by show GR ≠ GT; exact ne_R_T)).far ⟨GT, 1, none⟩ (.int .i64 b') (by show GR ≠ GT; exact ne_R_T)).far ⟨GT, 2, none⟩ (.int .i64 c') (by show GR ≠ GT; exact ne_R_T))
            have HT := Lib.hid (((HT.out.set0 a').set1 b').set2 c')
            have HB := Lib.hid (Below.setCell (Below.setCell (Below.setCell HB.out (p := ⟨GT, 0, none⟩) le_T (.int .i64 a')) (p := ⟨GT, 1, none⟩) le_T (.int .i64 b')) (p := ⟨GT, 2, none⟩) le_T (.int .i64 c'))
            rw [← hw93] at HT HQ HR HB
            clear hw93
            go_wp2_with fail
            go_roundw
            case rel => exact ⟨m - 1, a', b', c', p0, p1, p2, p3, p4, p5, p6, p7, p8, congrArg (Value.int .i64) (by have := HM1.out; omega), by omega, HS2.out, HF2.out, HL2.out, HT.out, HQ.out, HR.out, HB.out⟩
            case measure =>
              show ((m : Int) - 1).toNat < (m : Int).toNat
              have := HM1.out
              omega
        · skip
          go_simp; (go_at_call 70; refine (HMAT.out _).mono ?_; rintro en ywr21x0 ⟨rfl, hb2⟩); have HT := Lib.hid (HT.out.below hb2); have HQ := Lib.hid (HQ.out.below hb2); have HR := Lib.hid (HR.out.below hb2); refine hK.out _ _ ⟨below_after hb2 hHeld.1, HT.out, HR.out⟩ (fun hHeld2 => ?_); clear hb2; (clear hHeld; rename _ => hHeld; clear hK K; have hHeld : (fun W => Below w.heap.size w W ∧ Bk3 W GT a b c ∧ Bk9 W GR 0 0 0 0 0 0 0 0 0) _ := hHeld); (try simp only [Act.put, List.getElem_toArray, List.getElem_cons_succ, List.getElem_cons_zero, List.setIfInBounds_toArray, List.set_cons_zero, List.set_cons_succ])
          refine wpAnyH_ready (rs := [0]) (by kernel_rfl) (by simp) ?_; refine AllReadyH.cons rfl (fun K hK => ?_) AllReadyH.nil
          obtain ⟨⟨iQ0, iQ1, iQ2, iQ3, iQ4, iQ5, iQ6, iQ7, iQ8⟩, _, jQ⟩ := HQ.out; go_simp; clear iQ0 iQ1 iQ2 iQ3 iQ4 iQ5 iQ6 iQ7 iQ8 jQ; refine hK.out _ _ hHeld (fun hHeld2 => ?_); (clear hHeld; rename _ => hHeld; clear hK K; have hHeld : (fun W => Below w.heap.size w W ∧ Bk3 W GT a b c ∧ Bk9 W GR 0 0 0 0 0 0 0 0 0) _ := hHeld); (try simp only [Act.put, List.getElem_toArray, List.getElem_cons_succ, List.getElem_cons_zero, List.setIfInBounds_toArray, List.set_cons_zero, List.set_cons_succ])
          refine wpAnyH_ready (rs := [4]) (by kernel_rfl) (by simp) ?_; refine AllReadyH.cons rfl (fun K hK => ?_) AllReadyH.nil
          go_simp; (go_at_call 69; refine (HTIM.out _).mono ?_; rintro en ywr21x2 ⟨rfl, hb2⟩); have HT := Lib.hid (HT.out.below hb2); have HQ := Lib.hid (HQ.out.below hb2); have HR := Lib.hid (HR.out.below hb2); refine hK.out _ _ ⟨below_after hb2 hHeld.1, HT.out, HR.out⟩ (fun hHeld2 => ?_); clear hb2; (clear hHeld; rename _ => hHeld; clear hK K; have hHeld : (fun W => Below w.heap.size w W ∧ Bk3 W GT a b c ∧ Bk9 W GR 0 0 0 0 0 0 0 0 0) _ := hHeld); (try simp only [Act.put, List.getElem_toArray, List.getElem_cons_succ, List.getElem_cons_zero, List.setIfInBounds_toArray, List.set_cons_zero, List.set_cons_succ])
          refine wpAnyH_ready (rs := [5]) (by kernel_rfl) (by simp) ?_; refine AllReadyH.cons rfl (fun K hK => ?_) AllReadyH.nil
          obtain ⟨⟨a0, a1, a2, a3, a4, a5, a6, a7, a8⟩, ⟨f0, f1, f2, f3, f4, f5, f6, f7, f8⟩, az⟩ := HQ.out; go_simp; clear a0 f0 a1 f1 a2 f2 a3 f3 a4 f4 a5 f5 a6 f6 a7 f7 a8 f8 az
          have HT := Lib.hid (((((((((HT.out.far ⟨GQ, 0, none⟩ (.int .i64 p0) (by show GT ≠ GQ; exact ne_T_Q)).far ⟨GQ, 1, none⟩ (.int .i64 p1) (by show GT ≠ GQ; exact ne_T_Q)).far ⟨GQ, 2, none⟩ (.int .i64 p2) (by show GT ≠ GQ; exact ne_T_Q)).far ⟨GQ, 3, none⟩ (.int .i64 p3) (by show GT ≠ GQ; exact ne_T_Q)).far ⟨GQ, 4, none⟩ (.int .i64 p4) (by show GT ≠ GQ; exact ne_T_Q)).far ⟨GQ, 5, none⟩ (.int .i64 p5) (by show GT ≠ GQ; exact ne_T_Q)).far ⟨GQ, 6, none⟩ (.int .i64 p6) (by show GT ≠ GQ; exact ne_T_Q)).far ⟨GQ, 7, none⟩ (.int .i64 p7) (by show GT ≠ GQ; exact ne_T_Q)).far ⟨GQ, 8, none⟩ (.int .i64 p8) (by show GT ≠ GQ; exact ne_T_Q))
          have HR := Lib.hid (((((((((HR.out.far ⟨GQ, 0, none⟩ (.int .i64 p0) (by show GR ≠ GQ; exact ne_R_Q)).far ⟨GQ, 1, none⟩ (.int .i64 p1) (by show GR ≠ GQ; exact ne_R_Q)).far ⟨GQ, 2, none⟩ (.int .i64 p2) (by show GR ≠ GQ; exact ne_R_Q)).far ⟨GQ, 3, none⟩ (.int .i64 p3) (by show GR ≠ GQ; exact ne_R_Q)).far ⟨GQ, 4, none⟩ (.int .i64 p4) (by show GR ≠ GQ; exact ne_R_Q)).far ⟨GQ, 5, none⟩ (.int .i64 p5) (by show GR ≠ GQ; exact ne_R_Q)).far ⟨GQ, 6, none⟩ (.int .i64 p6) (by show GR ≠ GQ; exact ne_R_Q)).far ⟨GQ, 7, none⟩ (.int .i64 p7) (by show GR ≠ GQ; exact ne_R_Q)).far ⟨GQ, 8, none⟩ (.int .i64 p8) (by show GR ≠ GQ; exact ne_R_Q))
          have HQ := Lib.hid (((((((((HQ.out.set0 p0).set1 p1).set2 p2).set3 p3).set4 p4).set5 p5).set6 p6).set7 p7).set8 p8)
          refine hK.out _ _ ⟨(Below.setCell (Below.setCell (Below.setCell (Below.setCell (Below.setCell (Below.setCell (Below.setCell (Below.setCell (Below.setCell hHeld.1 (p := ⟨GQ, 0, none⟩) le_Q _) (p := ⟨GQ, 1, none⟩) le_Q _) (p := ⟨GQ, 2, none⟩) le_Q _) (p := ⟨GQ, 3, none⟩) le_Q _) (p := ⟨GQ, 4, none⟩) le_Q _) (p := ⟨GQ, 5, none⟩) le_Q _) (p := ⟨GQ, 6, none⟩) le_Q _) (p := ⟨GQ, 7, none⟩) le_Q _) (p := ⟨GQ, 8, none⟩) le_Q _), HT.out, HR.out⟩ (fun hHeld2 => ?_); (clear hHeld; rename _ => hHeld; clear hK K; have hHeld : (fun W => Below w.heap.size w W ∧ Bk3 W GT a b c ∧ Bk9 W GR 0 0 0 0 0 0 0 0 0) _ := hHeld); (try simp only [Act.put, List.getElem_toArray, List.getElem_cons_succ, List.getElem_cons_zero, List.setIfInBounds_toArray, List.set_cons_zero, List.set_cons_succ])
          obtain ⟨ywr21x3, hwx⟩ : ∃ wx, ((((((((ywr21x2.setCell ⟨GQ, 0, none⟩ (.int .i64 p0)).setCell ⟨GQ, 1, none⟩ (.int .i64 p1)).setCell ⟨GQ, 2, none⟩ (.int .i64 p2)).setCell ⟨GQ, 3, none⟩ (.int .i64 p3)).setCell ⟨GQ, 4, none⟩ (.int .i64 p4)).setCell ⟨GQ, 5, none⟩ (.int .i64 p5)).setCell ⟨GQ, 6, none⟩ (.int .i64 p6)).setCell ⟨GQ, 7, none⟩ (.int .i64 p7)).setCell ⟨GQ, 8, none⟩ (.int .i64 p8) = wx := ⟨_, rfl⟩; rw [hwx] at HT HQ HR hHeld ⊢; clear hwx
          refine wpAnyH_done (by kernel_rfl) ?_ _
          have HB := Lib.hid (hHeld.1)
          clear hHeld
          cases hf : fitS ((a', b', c'), (p0, p1, p2), (p3, p4, p5), (p6, p7, p8))
          · rw [hf] at HFITS
            have HE : Hid (V = .agg #[.int .i64 0, .int .i64 0, .int .i64 0, .int .i64 0, .int .i64 0, .int .i64 0, .int .i64 0, .int .i64 0, .int .i64 0] ∧ C = 3) := by
              have h := fit_last HK.out (m - 1) ((a', b', c'), (p0, p1, p2), (p3, p4, p5), (p6, p7, p8)) s00 hnn2 hf
              rw [HL2.out s00] at h
              exact HRES.out.2 h
            clear hf hnn2
            obtain ⟨⟨qT0, qT1, qT2⟩, ⟨fT0, fT1, fT2⟩, zT⟩ := HT.out
            obtain ⟨⟨qQ0, qQ1, qQ2, qQ3, qQ4, qQ5, qQ6, qQ7, qQ8⟩, ⟨fQ0, fQ1, fQ2, fQ3, fQ4, fQ5, fQ6, fQ7, fQ8⟩, zQ⟩ := HQ.out
            obtain ⟨⟨qR0, qR1, qR2, qR3, qR4, qR5, qR6, qR7, qR8⟩, ⟨fR0, fR1, fR2, fR3, fR4, fR5, fR6, fR7, fR8⟩, zR⟩ := HR.out
            go_wp2_with fail
            go_at_call 71
            refine (HFITS.out _).mono ?_
            rintro e w81 ⟨rfl, hb⟩
            clear qT0 fT0 qT1 fT1 qT2 fT2 zT qQ0 fQ0 qQ1 fQ1 qQ2 fQ2 qQ3 fQ3 qQ4 fQ4 qQ5 fQ5 qQ6 fQ6 qQ7 fQ7 qQ8 fQ8 zQ qR0 fR0 qR1 fR1 qR2 fR2 qR3 fR3 qR4 fR4 qR5 fR5 qR6 fR6 qR7 fR7 qR8 fR8 zR
            have HT := Lib.hid (HT.out.below hb)
            have HQ := Lib.hid (HQ.out.below hb)
            have HR := Lib.hid (HR.out.below hb)
            have HB := Lib.hid (below_after hb HB.out)
            clear hb
            obtain ⟨⟨qT0, qT1, qT2⟩, ⟨fT0, fT1, fT2⟩, zT⟩ := HT.out
            obtain ⟨⟨qQ0, qQ1, qQ2, qQ3, qQ4, qQ5, qQ6, qQ7, qQ8⟩, ⟨fQ0, fQ1, fQ2, fQ3, fQ4, fQ5, fQ6, fQ7, fQ8⟩, zQ⟩ := HQ.out
            obtain ⟨⟨qR0, qR1, qR2, qR3, qR4, qR5, qR6, qR7, qR8⟩, ⟨fR0, fR1, fR2, fR3, fR4, fR5, fR6, fR7, fR8⟩, zR⟩ := HR.out
            go_wp2_with fail
            refine bodyPost_ret (v := .tuple #[.agg #[.int .i64 0, .int .i64 0, .int .i64 0, .int .i64 0, .int .i64 0, .int .i64 0, .int .i64 0, .int .i64 0, .int .i64 0], .int .i64 3]) (by simp (maxDischargeDepth := 8) [results, Try.results35, go_sem, *]) rfl ?_
            have hb := HB.out
            exact ⟨by rw [HE.out.1, HE.out.2], by (repeat' (first | (with_reducible exact Below.refl _ _) | (with_reducible refine Below.alloc ?_ ?_ _) | (with_reducible refine Below.setCell ?_ ?_ _) | (with_reducible refine Below.drew ?_) | (with_reducible refine below_drewN ?_ _) | (with_reducible assumption) | (with_reducible refine below_after (by with_reducible assumption) ?_) | go_size))⟩
          · rw [hf] at HFITS
            have HF2 := Lib.hid hf
            clear hf hnn2
            obtain ⟨⟨qT0, qT1, qT2⟩, ⟨fT0, fT1, fT2⟩, zT⟩ := HT.out
            obtain ⟨⟨qQ0, qQ1, qQ2, qQ3, qQ4, qQ5, qQ6, qQ7, qQ8⟩, ⟨fQ0, fQ1, fQ2, fQ3, fQ4, fQ5, fQ6, fQ7, fQ8⟩, zQ⟩ := HQ.out
            obtain ⟨⟨qR0, qR1, qR2, qR3, qR4, qR5, qR6, qR7, qR8⟩, ⟨fR0, fR1, fR2, fR3, fR4, fR5, fR6, fR7, fR8⟩, zR⟩ := HR.out
            go_wp2_with fail
            go_at_call 71
            refine (HFITS.out _).mono ?_
            rintro e w91 ⟨rfl, hb⟩
            clear qT0 fT0 qT1 fT1 qT2 fT2 zT qQ0 fQ0 qQ1 fQ1 qQ2 fQ2 qQ3 fQ3 qQ4 fQ4 qQ5 fQ5 qQ6 fQ6 qQ7 fQ7 qQ8 fQ8 zQ qR0 fR0 qR1 fR1 qR2 fR2 qR3 fR3 qR4 fR4 qR5 fR5 qR6 fR6 qR7 fR7 qR8 fR8 zR
            have HT := Lib.hid (HT.out.below hb)
            have HQ := Lib.hid (HQ.out.below hb)
            have HR := Lib.hid (HR.out.below hb)
            have HB := Lib.hid (below_after hb HB.out)
            clear hb
            obtain ⟨⟨qT0, qT1, qT2⟩, ⟨fT0, fT1, fT2⟩, zT⟩ := HT.out
            obtain ⟨⟨qQ0, qQ1, qQ2, qQ3, qQ4, qQ5, qQ6, qQ7, qQ8⟩, ⟨fQ0, fQ1, fQ2, fQ3, fQ4, fQ5, fQ6, fQ7, fQ8⟩, zQ⟩ := HQ.out
            obtain ⟨⟨qR0, qR1, qR2, qR3, qR4, qR5, qR6, qR7, qR8⟩, ⟨fR0, fR1, fR2, fR3, fR4, fR5, fR6, fR7, fR8⟩, zR⟩ := HR.out
            go_wp2_with fail
            go_at_call 60
            refine (HSTEP.out _).mono ?_
            rintro e w92 ⟨rfl, hb⟩
            clear qT0 fT0 qT1 fT1 qT2 fT2 zT qQ0 fQ0 qQ1 fQ1 qQ2 fQ2 qQ3 fQ3 qQ4 fQ4 qQ5 fQ5 qQ6 fQ6 qQ7 fQ7 qQ8 fQ8 zQ qR0 fR0 qR1 fR1 qR2 fR2 qR3 fR3 qR4 fR4 qR5 fR5 qR6 fR6 qR7 fR7 qR8 fR8 zR
            have HT := Lib.hid (HT.out.below hb)
            have HQ := Lib.hid (HQ.out.below hb)
            have HR := Lib.hid (HR.out.below hb)
            have HB := Lib.hid (below_after hb HB.out)
            clear hb
            obtain ⟨⟨qT0, qT1, qT2⟩, ⟨fT0, fT1, fT2⟩, zT⟩ := HT.out
            obtain ⟨⟨qQ0, qQ1, qQ2, qQ3, qQ4, qQ5, qQ6, qQ7, qQ8⟩, ⟨fQ0, fQ1, fQ2, fQ3, fQ4, fQ5, fQ6, fQ7, fQ8⟩, zQ⟩ := HQ.out
            obtain ⟨⟨qR0, qR1, qR2, qR3, qR4, qR5, qR6, qR7, qR8⟩, ⟨fR0, fR1, fR2, fR3, fR4, fR5, fR6, fR7, fR8⟩, zR⟩ := HR.out
            go_upto_region 8 with fail
            obtain ⟨w93, hw93⟩ : ∃ wx, wx = (((w92.setCell ⟨GT, 0, none⟩ (.int .i64 a')).setCell ⟨GT, 1, none⟩ (.int .i64 b')).setCell ⟨GT, 2, none⟩ (.int .i64 c')) := ⟨_, rfl⟩
            rw [← hw93]
            clear qT0 fT0 qT1 fT1 qT2 fT2 zT qQ0 fQ0 qQ1 fQ1 qQ2 fQ2 qQ3 fQ3 qQ4 fQ4 qQ5 fQ5 qQ6 fQ6 qQ7 fQ7 qQ8 fQ8 zQ qR0 fR0 qR1 fR1 qR2 fR2 qR3 fR3 qR4 fR4 qR5 fR5 qR6 fR6 qR7 fR7 qR8 fR8 zR
            have HQ := Lib.hid (((HQ.out.far ⟨GT, 0, none⟩ (.int .i64 a') (by show GQ ≠ GT; exact ne_Q_T)).far ⟨GT, 1, none⟩ (.int .i64 b') (by show GQ ≠ GT; exact ne_Q_T)).far ⟨GT, 2, none⟩ (.int .i64 c') (by show GQ ≠ GT; exact ne_Q_T))
            have HR := Lib.hid (((HR.out.far ⟨GT, 0, none⟩ (.int .i64 a') (by show GR ≠ GT; exact ne_R_T)).far ⟨GT, 1, none⟩ (.int .i64 b') (by show GR ≠ GT; exact ne_R_T)).far ⟨GT, 2, none⟩ (.int .i64 c') (by show GR ≠ GT; exact ne_R_T))
            have HT := Lib.hid (((HT.out.set0 a').set1 b').set2 c')
            have HB := Lib.hid (Below.setCell (Below.setCell (Below.setCell HB.out (p := ⟨GT, 0, none⟩) le_T (.int .i64 a')) (p := ⟨GT, 1, none⟩) le_T (.int .i64 b')) (p := ⟨GT, 2, none⟩) le_T (.int .i64 c'))
            rw [← hw93] at HT HQ HR HB
            clear hw93
            go_wp2_with fail
            go_roundw
            case rel => exact ⟨m - 1, a', b', c', p0, p1, p2, p3, p4, p5, p6, p7, p8, congrArg (Value.int .i64) (by have := HM1.out; omega), by omega, HS2.out, HF2.out, HL2.out, HT.out, HQ.out, HR.out, HB.out⟩
            case measure =>
              show ((m : Int) - 1).toNat < (m : Int).toNat
              have := HM1.out
              omega
      · rw [he] at HEND
        have HL2 := HL.out s00
        rw [runL_end (k := k) (n := m) (s := ((a, b, c), (q0, q1, q2), (q3, q4, q5), (q6, q7, q8))) (.inr (show enT k (a, b, c) = true from he))] at HL2
        have HE : Hid (V = .agg #[.int .i64 q0, .int .i64 q1, .int .i64 q2, .int .i64 q3, .int .i64 q4, .int .i64 q5, .int .i64 q6, .int .i64 q7, .int .i64 q8] ∧ C = 0) := by
          have e : LAST = ((a, b, c), (q0, q1, q2), (q3, q4, q5), (q6, q7, q8)) := HL2.symm
          have hr := HRES.out.1 (by rw [e]; exact HFI.out)
          rw [e] at hr
          exact hr
        clear HL2
        clear he
        obtain ⟨⟨qT0, qT1, qT2⟩, ⟨fT0, fT1, fT2⟩, zT⟩ := HT.out
        obtain ⟨⟨qQ0, qQ1, qQ2, qQ3, qQ4, qQ5, qQ6, qQ7, qQ8⟩, ⟨fQ0, fQ1, fQ2, fQ3, fQ4, fQ5, fQ6, fQ7, fQ8⟩, zQ⟩ := HQ.out
        obtain ⟨⟨qR0, qR1, qR2, qR3, qR4, qR5, qR6, qR7, qR8⟩, ⟨fR0, fR1, fR2, fR3, fR4, fR5, fR6, fR7, fR8⟩, zR⟩ := HR.out
        go_wp2_with fail
        go_at_call 64
        refine (HEND.out _).mono ?_
        rintro e w21 ⟨rfl, hb⟩
        clear qT0 fT0 qT1 fT1 qT2 fT2 zT qQ0 fQ0 qQ1 fQ1 qQ2 fQ2 qQ3 fQ3 qQ4 fQ4 qQ5 fQ5 qQ6 fQ6 qQ7 fQ7 qQ8 fQ8 zQ qR0 fR0 qR1 fR1 qR2 fR2 qR3 fR3 qR4 fR4 qR5 fR5 qR6 fR6 qR7 fR7 qR8 fR8 zR
        have HT := Lib.hid (HT.out.below hb)
        have HQ := Lib.hid (HQ.out.below hb)
        have HR := Lib.hid (HR.out.below hb)
        have HB := Lib.hid (below_after hb HB.out)
        clear hb
        obtain ⟨⟨qT0, qT1, qT2⟩, ⟨fT0, fT1, fT2⟩, zT⟩ := HT.out
        obtain ⟨⟨qQ0, qQ1, qQ2, qQ3, qQ4, qQ5, qQ6, qQ7, qQ8⟩, ⟨fQ0, fQ1, fQ2, fQ3, fQ4, fQ5, fQ6, fQ7, fQ8⟩, zQ⟩ := HQ.out
        obtain ⟨⟨qR0, qR1, qR2, qR3, qR4, qR5, qR6, qR7, qR8⟩, ⟨fR0, fR1, fR2, fR3, fR4, fR5, fR6, fR7, fR8⟩, zR⟩ := HR.out
        go_wp2_with fail
        refine bodyPost_ret (v := .tuple #[.agg #[.int .i64 q0, .int .i64 q1, .int .i64 q2, .int .i64 q3, .int .i64 q4, .int .i64 q5, .int .i64 q6, .int .i64 q7, .int .i64 q8], .int .i64 0]) (by simp (maxDischargeDepth := 8) [results, Try.results35, go_sem, *]) rfl ?_
        have hb := HB.out
        exact ⟨by rw [HE.out.1, HE.out.2], by (repeat' (first | (with_reducible exact Below.refl _ _) | (with_reducible refine Below.alloc ?_ ?_ _) | (with_reducible refine Below.setCell ?_ ?_ _) | (with_reducible refine Below.drew ?_) | (with_reducible refine below_drewN ?_ _) | (with_reducible assumption) | (with_reducible refine below_after (by with_reducible assumption) ?_) | go_size))⟩
theorem last_any (k n : Nat) (s : Stn) : ∀ s', lastF s' (runL k n s) = lastF s00 (runL k n s) := by
  intro s'
  have hlen := (runL_len k n s).1
  cases hc : runL k n s with
  | nil => rw [hc] at hlen; simp at hlen
  | cons q l => rfl
set_option maxHeartbeats 1600000 in
theorem spec_MatrixOfRun_any (a b c r n : Int) (w : World) : Calls Try.prog 35 #[.agg #[.int .i64 a, .int .i64 b, .int .i64 c], .int .i64 r, .int .i64 n] w fun e w' => e = .returned (.tuple #[mrV a b c r n, .int .i64 (mrK a b c r n)]) ∧ Below w.heap.size w w' := by
  rcases rcd_cases a b c r n with ⟨h0, hs, k, m, rfl, hk, rfl, hm⟩ | ⟨h0, h1⟩
  · have HC := fun w => l07Code_any a b c (k : Int) w
    rw [show scd a b c (k : Int) = 0 from by unfold scd; rw [if_pos hs, if_pos (by omega)]] at HC
    have HIN := fun w => l01In_any (m : Int) 0 300 w
    rw [show inB (m : Int) 0 300 = true from inB_iff.2 (by omega)] at HIN
    refine spec_MatrixOfRun_ok k m a b c (mrS a b c (k : Int) (m : Int)) _ _ w (Lib.hid hk) (Lib.hid hm) (Lib.hid hs) (Lib.hid (last_any k m _)) (Lib.hid ⟨fun hf => ?_, fun hf => ?_⟩) (Lib.hid HC) (Lib.hid HIN)
    · have e1 : mrK a b c (k : Int) (m : Int) = 0 := by unfold mrK; rw [if_pos h0, hf]; rfl
      exact ⟨by unfold mrV; rw [if_pos e1], e1⟩
    · have e1 : mrK a b c (k : Int) (m : Int) = 3 := by unfold mrK; rw [if_pos h0, hf]; rfl
      exact ⟨by unfold mrV; rw [if_neg (by rw [e1]; decide)], e1⟩
  · have e1 : mrK a b c r n = rcd a b c r n := by unfold mrK; rw [if_neg h1]
    have e2 : mrV a b c r n = .agg #[.int .i64 0, .int .i64 0, .int .i64 0, .int .i64 0, .int .i64 0, .int .i64 0, .int .i64 0, .int .i64 0, .int .i64 0] := by unfold mrV; rw [if_neg (by rw [e1]; exact h1)]
    rw [e1, e2]
    have HC := Lib.hid (fun w => l07Code_any a b c r w)
    rcases scd_cases a b c r with ⟨s0, hs, k, rfl, hk⟩ | ⟨s0, s1⟩
    · rw [s0] at HC
      have hn : inB n 0 300 = false := by
        cases h : inB n 0 300
        · rfl
        · exfalso
          apply h1
          unfold rcd
          rw [if_pos hs, if_pos ⟨by omega, inB_iff.1 h⟩]
      have HIN := Lib.hid (fun w => l01In_any n 0 300 w)
      rw [hn] at HIN
      rw [show rcd a b c (k : Int) n = 2 from by unfold rcd; rw [if_pos hs, if_neg (fun h => inB_not.1 hn h.2)]]
      clear h0 h1 s0 hs hn hk e1 e2
      obtain ⟨GT, hG⟩ : ∃ G, w.heap.size = G := ⟨_, rfl⟩
      have HG := Lib.hid hG
      go_enter Try.func35, Try.ntmps35
      go_upto_region 1 with fail
      obtain ⟨w0, hw0⟩ : ∃ w0, w0 = ((w.alloc (.cells #[.int .i64 a, .int .i64 b, .int .i64 c] 24)).alloc (.cells #[.int .i64 0, .int .i64 0, .int .i64 0, .int .i64 0, .int .i64 0, .int .i64 0, .int .i64 0, .int .i64 0, .int .i64 0] 43)) := ⟨_, rfl⟩
      rw [← hw0]
      have HT : Hid (Bk3 w0 GT a b c) := by
        have h := (bk3_new w a b c 24).below (W' := ((w.alloc (.cells #[.int .i64 a, .int .i64 b, .int .i64 c] 24)).alloc (.cells #[.int .i64 0, .int .i64 0, .int .i64 0, .int .i64 0, .int .i64 0, .int .i64 0, .int .i64 0, .int .i64 0, .int .i64 0] 43))) (by (repeat' (first | (with_reducible exact Below.refl _ _) | (with_reducible refine Below.alloc ?_ ?_ _) | (with_reducible refine Below.setCell ?_ ?_ _) | (with_reducible refine Below.drew ?_) | (with_reducible refine below_drewN ?_ _) | (with_reducible assumption) | (with_reducible refine below_after (by with_reducible assumption) ?_) | go_size)))
        (try simp only [World.size_alloc] at h)
        rw [hG] at h
        rw [hw0]; exact h
      have HR : Hid (Bk9 w0 (GT + 1) 0 0 0 0 0 0 0 0 0) := by
        have h := (bk9_new (w.alloc (.cells #[.int .i64 a, .int .i64 b, .int .i64 c] 24)) 0 0 0 0 0 0 0 0 0 43).below (W' := ((w.alloc (.cells #[.int .i64 a, .int .i64 b, .int .i64 c] 24)).alloc (.cells #[.int .i64 0, .int .i64 0, .int .i64 0, .int .i64 0, .int .i64 0, .int .i64 0, .int .i64 0, .int .i64 0, .int .i64 0] 43))) (by (repeat' (first | (with_reducible exact Below.refl _ _) | (with_reducible refine Below.alloc ?_ ?_ _) | (with_reducible refine Below.setCell ?_ ?_ _) | (with_reducible refine Below.drew ?_) | (with_reducible refine below_drewN ?_ _) | (with_reducible assumption) | (with_reducible refine below_after (by with_reducible assumption) ?_) | go_size)))
        (try simp only [World.size_alloc] at h)
        rw [hG] at h
        rw [hw0]; exact h
      have HB : Hid (Below w.heap.size w w0) := by show Below w.heap.size w w0; rw [hw0]; (repeat' (first | (with_reducible exact Below.refl _ _) | (with_reducible refine Below.alloc ?_ ?_ _) | (with_reducible refine Below.setCell ?_ ?_ _) | (with_reducible refine Below.drew ?_) | (with_reducible refine below_drewN ?_ _) | (with_reducible assumption) | (with_reducible refine below_after (by with_reducible assumption) ?_) | go_size))
      clear hw0
      obtain ⟨GR, hGR⟩ : ∃ g, GT + 1 = g := ⟨_, rfl⟩
      rw [hGR] at HR ⊢
      have le_T : w.heap.size ≤ GT := by omega
      have le_R : w.heap.size ≤ GR := by omega
      have ne_R_T : GR ≠ GT := by omega
      have ne_T_R : GT ≠ GR := by omega
      clear hGR
      obtain ⟨⟨qT0, qT1, qT2⟩, ⟨fT0, fT1, fT2⟩, zT⟩ := HT.out
      obtain ⟨⟨qR0, qR1, qR2, qR3, qR4, qR5, qR6, qR7, qR8⟩, ⟨fR0, fR1, fR2, fR3, fR4, fR5, fR6, fR7, fR8⟩, zR⟩ := HR.out
      go_wp2_with fail
      go_at_call 59
      refine (HC.out _).mono ?_
      rintro e w1 ⟨rfl, hb⟩
      clear qT0 fT0 qT1 fT1 qT2 fT2 zT qR0 fR0 qR1 fR1 qR2 fR2 qR3 fR3 qR4 fR4 qR5 fR5 qR6 fR6 qR7 fR7 qR8 fR8 zR
      have HT := Lib.hid (HT.out.below hb)
      have HR := Lib.hid (HR.out.below hb)
      have HB := Lib.hid (below_after hb HB.out)
      clear hb
      obtain ⟨⟨qT0, qT1, qT2⟩, ⟨fT0, fT1, fT2⟩, zT⟩ := HT.out
      obtain ⟨⟨qR0, qR1, qR2, qR3, qR4, qR5, qR6, qR7, qR8⟩, ⟨fR0, fR1, fR2, fR3, fR4, fR5, fR6, fR7, fR8⟩, zR⟩ := HR.out
      go_wp2_with (go_at_call 65; refine (HIN.out _).mono ?_; rintro e wn ⟨rfl, rfl⟩)
      refine bodyPost_ret (v := .tuple #[.agg #[.int .i64 0, .int .i64 0, .int .i64 0, .int .i64 0, .int .i64 0, .int .i64 0, .int .i64 0, .int .i64 0, .int .i64 0], .int .i64 2]) (by simp (maxDischargeDepth := 8) [results, Try.results35, go_sem, *]) rfl ?_
      have hb := HB.out
      exact ⟨rfl, by (repeat' (first | (with_reducible exact Below.refl _ _) | (with_reducible refine Below.alloc ?_ ?_ _) | (with_reducible refine Below.setCell ?_ ?_ _) | (with_reducible refine Below.drew ?_) | (with_reducible refine below_drewN ?_ _) | (with_reducible assumption) | (with_reducible refine below_after (by with_reducible assumption) ?_) | go_size))⟩
    · have e : rcd a b c r n = scd a b c r := by
        unfold rcd scd at *
        by_cases h : isSt a b c = true
        · simp only [h, if_true] at s1 ⊢
          by_cases h2 : 0 ≤ r ∧ r ≤ 3
          · rw [if_pos h2] at s1; exact absurd rfl s1
          · rw [if_neg h2, if_neg (by omega)]
        · simp only [h]
          rfl
      rw [e]
      obtain ⟨K, hK⟩ : ∃ K, scd a b c r = K := ⟨_, rfl⟩
      rw [hK] at HC s0 ⊢
      clear hK h1 h0 s1 e e1 e2
      obtain ⟨GT, hG⟩ : ∃ G, w.heap.size = G := ⟨_, rfl⟩
      have HG := Lib.hid hG
      go_enter Try.func35, Try.ntmps35
      go_upto_region 1 with fail
      obtain ⟨w0, hw0⟩ : ∃ w0, w0 = ((w.alloc (.cells #[.int .i64 a, .int .i64 b, .int .i64 c] 24)).alloc (.cells #[.int .i64 0, .int .i64 0, .int .i64 0, .int .i64 0, .int .i64 0, .int .i64 0, .int .i64 0, .int .i64 0, .int .i64 0] 43)) := ⟨_, rfl⟩
      rw [← hw0]
      have HT : Hid (Bk3 w0 GT a b c) := by
        have h := (bk3_new w a b c 24).below (W' := ((w.alloc (.cells #[.int .i64 a, .int .i64 b, .int .i64 c] 24)).alloc (.cells #[.int .i64 0, .int .i64 0, .int .i64 0, .int .i64 0, .int .i64 0, .int .i64 0, .int .i64 0, .int .i64 0, .int .i64 0] 43))) (by (repeat' (first | (with_reducible exact Below.refl _ _) | (with_reducible refine Below.alloc ?_ ?_ _) | (with_reducible refine Below.setCell ?_ ?_ _) | (with_reducible refine Below.drew ?_) | (with_reducible refine below_drewN ?_ _) | (with_reducible assumption) | (with_reducible refine below_after (by with_reducible assumption) ?_) | go_size)))
        (try simp only [World.size_alloc] at h)
        rw [hG] at h
        rw [hw0]; exact h
      have HR : Hid (Bk9 w0 (GT + 1) 0 0 0 0 0 0 0 0 0) := by
        have h := (bk9_new (w.alloc (.cells #[.int .i64 a, .int .i64 b, .int .i64 c] 24)) 0 0 0 0 0 0 0 0 0 43).below (W' := ((w.alloc (.cells #[.int .i64 a, .int .i64 b, .int .i64 c] 24)).alloc (.cells #[.int .i64 0, .int .i64 0, .int .i64 0, .int .i64 0, .int .i64 0, .int .i64 0, .int .i64 0, .int .i64 0, .int .i64 0] 43))) (by (repeat' (first | (with_reducible exact Below.refl _ _) | (with_reducible refine Below.alloc ?_ ?_ _) | (with_reducible refine Below.setCell ?_ ?_ _) | (with_reducible refine Below.drew ?_) | (with_reducible refine below_drewN ?_ _) | (with_reducible assumption) | (with_reducible refine below_after (by with_reducible assumption) ?_) | go_size)))
        (try simp only [World.size_alloc] at h)
        rw [hG] at h
        rw [hw0]; exact h
      have HB : Hid (Below w.heap.size w w0) := by show Below w.heap.size w w0; rw [hw0]; (repeat' (first | (with_reducible exact Below.refl _ _) | (with_reducible refine Below.alloc ?_ ?_ _) | (with_reducible refine Below.setCell ?_ ?_ _) | (with_reducible refine Below.drew ?_) | (with_reducible refine below_drewN ?_ _) | (with_reducible assumption) | (with_reducible refine below_after (by with_reducible assumption) ?_) | go_size))
      clear hw0
      obtain ⟨GR, hGR⟩ : ∃ g, GT + 1 = g := ⟨_, rfl⟩
      rw [hGR] at HR ⊢
      have le_T : w.heap.size ≤ GT := by omega
      have le_R : w.heap.size ≤ GR := by omega
      have ne_R_T : GR ≠ GT := by omega
      have ne_T_R : GT ≠ GR := by omega
      clear hGR
      obtain ⟨⟨qT0, qT1, qT2⟩, ⟨fT0, fT1, fT2⟩, zT⟩ := HT.out
      obtain ⟨⟨qR0, qR1, qR2, qR3, qR4, qR5, qR6, qR7, qR8⟩, ⟨fR0, fR1, fR2, fR3, fR4, fR5, fR6, fR7, fR8⟩, zR⟩ := HR.out
      go_wp2_with fail
      go_at_call 59
      refine (HC.out _).mono ?_
      rintro e w1 ⟨rfl, hb⟩
      clear qT0 fT0 qT1 fT1 qT2 fT2 zT qR0 fR0 qR1 fR1 qR2 fR2 qR3 fR3 qR4 fR4 qR5 fR5 qR6 fR6 qR7 fR7 qR8 fR8 zR
      have HT := Lib.hid (HT.out.below hb)
      have HR := Lib.hid (HR.out.below hb)
      have HB := Lib.hid (below_after hb HB.out)
      clear hb
      obtain ⟨⟨qT0, qT1, qT2⟩, ⟨fT0, fT1, fT2⟩, zT⟩ := HT.out
      obtain ⟨⟨qR0, qR1, qR2, qR3, qR4, qR5, qR6, qR7, qR8⟩, ⟨fR0, fR1, fR2, fR3, fR4, fR5, fR6, fR7, fR8⟩, zR⟩ := HR.out
      go_wp2_with fail
      refine bodyPost_ret (v := .tuple #[.agg #[.int .i64 0, .int .i64 0, .int .i64 0, .int .i64 0, .int .i64 0, .int .i64 0, .int .i64 0, .int .i64 0, .int .i64 0], .int .i64 K]) (by simp (maxDischargeDepth := 8) [results, Try.results35, go_sem, *]) rfl ?_
      have hb := HB.out
      exact ⟨rfl, by (repeat' (first | (with_reducible exact Below.refl _ _) | (with_reducible refine Below.alloc ?_ ?_ _) | (with_reducible refine Below.setCell ?_ ?_ _) | (with_reducible refine Below.drew ?_) | (with_reducible refine below_drewN ?_ _) | (with_reducible assumption) | (with_reducible refine below_after (by with_reducible assumption) ?_) | go_size))⟩
end Go.Proofs.Ytbgifgfegndlkaa
