/-
  TripleOfDigits in the model (own work).
-/
import Derived.Test.YthckbobbnkhnpaaTdC
import Derived.StillTailTactics
namespace Go.Proofs.Ythckbobbnkhnpaa
open Go.ChangeShapes Go.WideShapes Go.ChangeAt Go.RowKit
set_option linter.unusedVariables false
set_option linter.unusedSimpArgs false
set_option maxRecDepth 100000

def tdR (xss : List (List Int)) (r0 r1 r2 : Int) : Value := .tuple #[.agg #[.int .i64 (tdV xss r0 r1 r2).1, .int .i64 (tdV xss r0 r1 r2).2.1, .int .i64 (tdV xss r0 r1 r2).2.2], .int .i64 (tdK xss r0 r1 r2)]
theorem tdR_inv {xss : List (List Int)} {r0 r1 r2 : Int} (h : isTr r0 r1 r2 = false) : tdR xss r0 r1 r2 = .tuple #[.agg #[.int .i64 0, .int .i64 0, .int .i64 0], .int .i64 1] := by unfold tdR tdV tdK; rw [if_neg (by rw [h]; decide), if_neg (by rw [h]; decide)]
theorem tdR_rng {xss : List (List Int)} {r0 r1 r2 : Int} (h : isTr r0 r1 r2 = true) (k : (r0 == 0 && okD xss) = false) : tdR xss r0 r1 r2 = .tuple #[.agg #[.int .i64 0, .int .i64 0, .int .i64 0], .int .i64 2] := by unfold tdR tdV tdK; rw [if_pos h, if_pos h, if_neg (by rw [k]; decide), if_neg (by rw [k]; decide)]
theorem tdR_go {xss : List (List Int)} {r0 r1 r2 : Int} (h : isTr r0 r1 r2 = true) (k : (r0 == 0 && okD xss) = true) : tdR xss r0 r1 r2 = .tuple #[.agg #[.int .i64 (tdO (tdF xss xss.length r0 r1 r2)).1, .int .i64 (tdO (tdF xss xss.length r0 r1 r2)).2.1, .int .i64 (tdO (tdF xss xss.length r0 r1 r2)).2.2], .int .i64 (tdC (tdF xss xss.length r0 r1 r2))] := by unfold tdR tdV tdK; rw [if_pos h, if_pos h, if_pos k, if_pos k]
set_option maxHeartbeats 6400000 in
theorem spec_TripleOfDigits_any (a0 : Option Addr) (n cap : Nat) (vs : List Value) (xss : List (List Int)) (r0 r1 r2 : Int) (w : World) (h : RdSS w a0 n vs xss) (hm : n ≤ 1048576) (hmm : ∀ i, i < n → (xss.getD i []).length ≤ 1048576) :
    Calls Try.prog 5 #[.slice a0 n cap, .agg #[.int .i64 r0, .int .i64 r1, .int .i64 r2]] w fun e w' => e = .returned (tdR xss r0 r1 r2) ∧ Below w.heap.size w w' := by
  have HA := Lib.hid h
  have HMM := Lib.hid hmm
  have HXL := Lib.hid h.2.1
  clear h hmm
  have hI : ∀ w, Calls Try.prog 12 #[.agg #[.int .i64 r0, .int .i64 r1, .int .i64 r2]] w fun e w' => e = .returned (.bool (isTr r0 r1 r2)) ∧ Below w.heap.size w w' := fun w => l07Is_any r0 r1 r2 w
  cases htr : isTr r0 r1 r2
  · rw [htr] at hI
    have HI := Lib.hid hI
    have HV := Lib.hid (tdR_inv (xss := xss) htr)
    clear hI htr HA
    obtain ⟨GR, hG⟩ : ∃ G, w.heap.size = G := ⟨_, rfl⟩
    have HG := Lib.hid hG
    go_enter Try.func5, Try.ntmps5
    go_upto_region 1 with fail
    obtain ⟨w0, hw0⟩ : ∃ w0, w0 = ((w.alloc (.cells #[.int .i64 r0, .int .i64 r1, .int .i64 r2] 25)).alloc (.cells #[.int .i64 0, .int .i64 0, .int .i64 0] 25)) := ⟨_, rfl⟩
    rw [← hw0]
    have HR : Hid (Bk3 w0 GR r0 r1 r2) := by
      have h := (bk3_new w r0 r1 r2 25).below (W' := ((w.alloc (.cells #[.int .i64 r0, .int .i64 r1, .int .i64 r2] 25)).alloc (.cells #[.int .i64 0, .int .i64 0, .int .i64 0] 25))) (by (repeat' (first | (with_reducible exact Below.refl _ _) | (with_reducible refine Below.alloc ?_ ?_ _) | (with_reducible refine Below.setCell ?_ ?_ _) | (with_reducible refine Below.drew ?_) | (with_reducible refine below_drewN ?_ _) | (with_reducible assumption) | (with_reducible refine below_after (by with_reducible assumption) ?_) | go_size)))
      (try simp only [World.size_alloc] at h)
      rw [hG] at h
      rw [hw0]; exact h
    have HZ : Hid (Bk3 w0 (GR + 1) 0 0 0) := by
      have h := (bk3_new (w.alloc (.cells #[.int .i64 r0, .int .i64 r1, .int .i64 r2] 25)) 0 0 0 25).below (W' := ((w.alloc (.cells #[.int .i64 r0, .int .i64 r1, .int .i64 r2] 25)).alloc (.cells #[.int .i64 0, .int .i64 0, .int .i64 0] 25))) (by (repeat' (first | (with_reducible exact Below.refl _ _) | (with_reducible refine Below.alloc ?_ ?_ _) | (with_reducible refine Below.setCell ?_ ?_ _) | (with_reducible refine Below.drew ?_) | (with_reducible refine below_drewN ?_ _) | (with_reducible assumption) | (with_reducible refine below_after (by with_reducible assumption) ?_) | go_size)))
      (try simp only [World.size_alloc] at h)
      rw [hG] at h
      rw [hw0]; exact h
    have HB : Hid (Below w.heap.size w w0) := by show Below w.heap.size w w0; rw [hw0]; (repeat' (first | (with_reducible exact Below.refl _ _) | (with_reducible refine Below.alloc ?_ ?_ _) | (with_reducible refine Below.setCell ?_ ?_ _) | (with_reducible refine Below.drew ?_) | (with_reducible refine below_drewN ?_ _) | (with_reducible assumption) | (with_reducible refine below_after (by with_reducible assumption) ?_) | go_size))
    clear hw0
    obtain ⟨GZ, hGZ⟩ : ∃ g, GR + 1 = g := ⟨_, rfl⟩
    rw [hGZ] at HZ ⊢
    have le_R : w.heap.size ≤ GR := by omega
    have le_Z : w.heap.size ≤ GZ := by omega
    have ne_Z_R : GZ ≠ GR := by omega
    have ne_R_Z : GR ≠ GZ := by omega
    clear hGZ
    obtain ⟨⟨qR0, qR1, qR2⟩, ⟨fR0, fR1, fR2⟩, zR⟩ := HR.out
    obtain ⟨⟨qZ0, qZ1, qZ2⟩, ⟨fZ0, fZ1, fZ2⟩, zZ⟩ := HZ.out
    go_wp2_with fail
    go_at_call 12
    refine (HI.out _).mono ?_
    rintro e w1 ⟨rfl, hb⟩
    clear qR0 fR0 qR1 fR1 qR2 fR2 zR qZ0 fZ0 qZ1 fZ1 qZ2 fZ2 zZ
    have HR := Lib.hid (HR.out.below hb)
    have HZ := Lib.hid (HZ.out.below hb)
    have HB := Lib.hid (below_after hb HB.out)
    clear hb
    obtain ⟨⟨qR0, qR1, qR2⟩, ⟨fR0, fR1, fR2⟩, zR⟩ := HR.out
    obtain ⟨⟨qZ0, qZ1, qZ2⟩, ⟨fZ0, fZ1, fZ2⟩, zZ⟩ := HZ.out
    go_wp2_with fail
    refine bodyPost_ret (v := .tuple #[.agg #[.int .i64 0, .int .i64 0, .int .i64 0], .int .i64 1]) (by simp (maxDischargeDepth := 8) [results, Try.results5, go_sem, *]) rfl ?_
    have hb := HB.out
    exact ⟨by rw [HV.out], by (repeat' (first | (with_reducible exact Below.refl _ _) | (with_reducible refine Below.alloc ?_ ?_ _) | (with_reducible refine Below.setCell ?_ ?_ _) | (with_reducible refine Below.drew ?_) | (with_reducible refine below_drewN ?_ _) | (with_reducible assumption) | (with_reducible refine below_after (by with_reducible assumption) ?_) | go_size))⟩
  · rw [htr] at hI
    have HI := Lib.hid hI
    have HTR := Lib.hid htr
    clear hI htr
    by_cases h0 : r0 = 0
    · have HR0 : Hid ((r0 == 0) = true) := by show _ = _; simpa using h0
      by_cases h60 : n ≤ 60
      · have H60 := Lib.hid h60
        have h60i : ¬ (60 : Int) < (n : Int) := by omega
        have HNOX : Hid True := trivial
        subst h0
        obtain ⟨GR, hG⟩ : ∃ G, w.heap.size = G := ⟨_, rfl⟩
        have HG := Lib.hid hG
        go_enter Try.func5, Try.ntmps5
        go_upto_region 1 with fail
        obtain ⟨w0, hw0⟩ : ∃ w0, w0 = ((w.alloc (.cells #[.int .i64 0, .int .i64 r1, .int .i64 r2] 25)).alloc (.cells #[.int .i64 0, .int .i64 0, .int .i64 0] 25)) := ⟨_, rfl⟩
        rw [← hw0]
        have HR : Hid (Bk3 w0 GR 0 r1 r2) := by
          have h := (bk3_new w 0 r1 r2 25).below (W' := ((w.alloc (.cells #[.int .i64 0, .int .i64 r1, .int .i64 r2] 25)).alloc (.cells #[.int .i64 0, .int .i64 0, .int .i64 0] 25))) (by (repeat' (first | (with_reducible exact Below.refl _ _) | (with_reducible refine Below.alloc ?_ ?_ _) | (with_reducible refine Below.setCell ?_ ?_ _) | (with_reducible refine Below.drew ?_) | (with_reducible refine below_drewN ?_ _) | (with_reducible assumption) | (with_reducible refine below_after (by with_reducible assumption) ?_) | go_size)))
          (try simp only [World.size_alloc] at h)
          rw [hG] at h
          rw [hw0]; exact h
        have HZ : Hid (Bk3 w0 (GR + 1) 0 0 0) := by
          have h := (bk3_new (w.alloc (.cells #[.int .i64 0, .int .i64 r1, .int .i64 r2] 25)) 0 0 0 25).below (W' := ((w.alloc (.cells #[.int .i64 0, .int .i64 r1, .int .i64 r2] 25)).alloc (.cells #[.int .i64 0, .int .i64 0, .int .i64 0] 25))) (by (repeat' (first | (with_reducible exact Below.refl _ _) | (with_reducible refine Below.alloc ?_ ?_ _) | (with_reducible refine Below.setCell ?_ ?_ _) | (with_reducible refine Below.drew ?_) | (with_reducible refine below_drewN ?_ _) | (with_reducible assumption) | (with_reducible refine below_after (by with_reducible assumption) ?_) | go_size)))
          (try simp only [World.size_alloc] at h)
          rw [hG] at h
          rw [hw0]; exact h
        have HB : Hid (Below w.heap.size w w0) := by show Below w.heap.size w w0; rw [hw0]; (repeat' (first | (with_reducible exact Below.refl _ _) | (with_reducible refine Below.alloc ?_ ?_ _) | (with_reducible refine Below.setCell ?_ ?_ _) | (with_reducible refine Below.drew ?_) | (with_reducible refine below_drewN ?_ _) | (with_reducible assumption) | (with_reducible refine below_after (by with_reducible assumption) ?_) | go_size))
        clear hw0
        obtain ⟨GZ, hGZ⟩ : ∃ g, GR + 1 = g := ⟨_, rfl⟩
        rw [hGZ] at HZ ⊢
        have le_R : w.heap.size ≤ GR := by omega
        have le_Z : w.heap.size ≤ GZ := by omega
        have ne_Z_R : GZ ≠ GR := by omega
        have ne_R_Z : GR ≠ GZ := by omega
        clear hGZ
        obtain ⟨⟨qR0, qR1, qR2⟩, ⟨fR0, fR1, fR2⟩, zR⟩ := HR.out
        obtain ⟨⟨qZ0, qZ1, qZ2⟩, ⟨fZ0, fZ1, fZ2⟩, zZ⟩ := HZ.out
        go_wp2_with fail
        go_at_call 12
        refine (HI.out _).mono ?_
        rintro e w1 ⟨rfl, hb⟩
        clear qR0 fR0 qR1 fR1 qR2 fR2 zR qZ0 fZ0 qZ1 fZ1 qZ2 fZ2 zZ
        have HR := Lib.hid (HR.out.below hb)
        have HZ := Lib.hid (HZ.out.below hb)
        have HB := Lib.hid (below_after hb HB.out)
        clear hb
        obtain ⟨⟨qR0, qR1, qR2⟩, ⟨fR0, fR1, fR2⟩, zR⟩ := HR.out
        obtain ⟨⟨qZ0, qZ1, qZ2⟩, ⟨fZ0, fZ1, fZ2⟩, zZ⟩ := HZ.out
        go_wp2_with fail
        clear qR0 fR0 qR1 fR1 qR2 fR2 zR qZ0 fZ0 qZ1 fZ1 qZ2 fZ2 zZ
        have HRD := Lib.hid (HA.out.below HB.out)
        have HRD0 := HA
        obtain ⟨wl, hwl⟩ : ∃ wl, wl = w1 := ⟨_, rfl⟩
        rw [← hwl] at HR HZ HB HRD ⊢
        clear hwl HA
        go_loopw [6] (fun y wr => ∃ k : Nat, y = .int .i64 (k : Int) ∧ k ≤ n ∧ (xss.take k).all okP = true ∧ wl = wr) (fun y _ => n - (intOf y).toNat)
        case atStart => exact ⟨0, rfl, by omega, rfl, rfl⟩
        case round =>
          obtain ⟨k, rfl, hk, hall, rfl⟩ := hrel
          have HALL := Lib.hid hall
          clear hall
          by_cases hlt : k < n
          · obtain ⟨b, rfl, hb, hc⟩ := HRD.out.2.2.1 (by omega)
            have e1 := hc k hlt
            obtain ⟨ai, ci, hv, hcs⟩ := HRD.out.2.2.2 k hlt
            rw [hv] at e1
            have HLE := Lib.hid (HMM.out k hlt)
            have hk' : k < xss.length := by rw [HXL.out]; exact hlt
            have hget : xss.getD k [] = xss[k] := by simp [List.getD, hk']
            have HMEM : Hid (xss.getD k [] ∈ xss) := by show _ ∈ _; rw [hget]; exact List.getElem_mem hk'
            have HT : Hid ((xss.take (k + 1)).all okP = okP (xss.getD k [])) := by
              show _ = _
              rw [List.take_succ_eq_append_getElem hk', List.all_append, HALL.out, hget]; simp
            have HNO : Hid (okP (xss.getD k []) = false → tdR xss 0 r1 r2 = .tuple #[.agg #[.int .i64 0, .int .i64 0, .int .i64 0], .int .i64 2]) := by
              intro hno
              have hf : xss.all okP = false := by
                rw [List.all_eq_false]
                exact ⟨_, HMEM.out, by rw [hno]; simp⟩
              exact tdR_rng HTR.out (by unfold okD; rw [hf]; simp)
            obtain ⟨p, hp⟩ : ∃ p, xss.getD k [] = p := ⟨_, rfl⟩
            rw [hp] at e1 hcs HLE HT HNO
            clear hc hv hget hk' hp HMEM
            have i0 : (0 : Int) ≤ (k : Int) := by omega
            have i1 : (k : Int) < (n : Int) := by omega
            have hpl := HLE.out
            by_cases h2 : p.length = 2
            · obtain ⟨g, rfl, hg, hcg⟩ := hcs (by omega)
              have c0 := hcg 0 (by omega)
              have c1 := hcg 1 (by omega)
              rw [h2] at e1
              have HOK : Hid (okP p = (wh (p.getD 0 0) && wh (p.getD 1 0))) := by show _ = _; unfold okP; rw [h2]; rfl
              have hw : ∀ (m : Int) (q : Bool), wh m = q → ∀ w, Calls Try.prog 13 #[.int .i64 m, .int .i64 0, .int .i64 1000000] w fun e w' => e = .returned (.bool q) ∧ w = w' := fun m q h w => by have := l01In_any m 0 1000000 w; rwa [show inB m 0 1000000 = q from h] at this
              generalize p.getD 0 0 = p0 at *
              generalize p.getD 1 0 = p1 at *
              clear hcg hpl h2
              have li0 : (0 : Int) < 2 := by omega
              have li1 : (1 : Int) < 2 := by omega
              cases h0 : wh p0
              · have H0 := Lib.hid (hw p0 false h0)
                have HF : Hid (okP p = false) := by show _ = _; rw [HOK.out, h0]; rfl
                clear hw h0
                obtain ⟨⟨qR0, qR1, qR2⟩, ⟨fR0, fR1, fR2⟩, zR⟩ := HR.out
                obtain ⟨⟨qZ0, qZ1, qZ2⟩, ⟨fZ0, fZ1, fZ2⟩, zZ⟩ := HZ.out
                go_wp2_with fail
                go_at_call 13
                refine (H0.out _).mono ?_
                rintro e wn ⟨rfl, rfl⟩
                go_wp2_with fail
                refine bodyPost_ret (v := .tuple #[.agg #[.int .i64 0, .int .i64 0, .int .i64 0], .int .i64 2]) (by simp (maxDischargeDepth := 8) [results, Try.results5, go_sem, *]) rfl ?_
                have hb := HB.out
                exact ⟨by rw [HNO.out HF.out], by (repeat' (first | (with_reducible exact Below.refl _ _) | (with_reducible refine Below.alloc ?_ ?_ _) | (with_reducible refine Below.setCell ?_ ?_ _) | (with_reducible refine Below.drew ?_) | (with_reducible refine below_drewN ?_ _) | (with_reducible assumption) | (with_reducible refine below_after (by with_reducible assumption) ?_) | go_size))⟩
              · have H0 := Lib.hid (hw p0 true h0)
                cases h1 : wh p1
                · have H1 := Lib.hid (hw p1 false h1)
                  have HF : Hid (okP p = false) := by show _ = _; rw [HOK.out, h0, h1]; rfl
                  clear hw h0 h1
                  obtain ⟨⟨qR0, qR1, qR2⟩, ⟨fR0, fR1, fR2⟩, zR⟩ := HR.out
                  obtain ⟨⟨qZ0, qZ1, qZ2⟩, ⟨fZ0, fZ1, fZ2⟩, zZ⟩ := HZ.out
                  go_wp2_with fail
                  go_at_call 13
                  refine (H0.out _).mono ?_
                  rintro e wn ⟨rfl, rfl⟩
                  go_wp2_with fail
                  go_at_call 13
                  refine (H1.out _).mono ?_
                  rintro e wn ⟨rfl, rfl⟩
                  go_wp2_with fail
                  refine bodyPost_ret (v := .tuple #[.agg #[.int .i64 0, .int .i64 0, .int .i64 0], .int .i64 2]) (by simp (maxDischargeDepth := 8) [results, Try.results5, go_sem, *]) rfl ?_
                  have hb := HB.out
                  exact ⟨by rw [HNO.out HF.out], by (repeat' (first | (with_reducible exact Below.refl _ _) | (with_reducible refine Below.alloc ?_ ?_ _) | (with_reducible refine Below.setCell ?_ ?_ _) | (with_reducible refine Below.drew ?_) | (with_reducible refine below_drewN ?_ _) | (with_reducible assumption) | (with_reducible refine below_after (by with_reducible assumption) ?_) | go_size))⟩
                · have H1 := Lib.hid (hw p1 true h1)
                  have HF : Hid (okP p = true) := by show _ = _; rw [HOK.out, h0, h1]; rfl
                  clear hw h0 h1
                  go_wp2_with fail
                  go_at_call 13
                  refine (H0.out _).mono ?_
                  rintro e wn ⟨rfl, rfl⟩
                  go_wp2_with fail
                  go_at_call 13
                  refine (H1.out _).mono ?_
                  rintro e wn ⟨rfl, rfl⟩
                  go_wp2_with fail
                  go_roundw
                  case rel => exact ⟨k + 1, by go_num, by omega, by rw [HT.out, HF.out], by trivial⟩
                  case measure => simp [intOf]; omega
            · have hne : ¬ ((p.length : Nat) : Int) = 2 := by omega
              have hne2 : (((p.length : Nat) : Int) == 2) = false := by simpa using hne
              have HF : Hid (okP p = false) := by show _ = _; unfold okP; rw [show (p.length == 2) = false by simpa using h2]; rfl
              clear hcs
              obtain ⟨⟨qR0, qR1, qR2⟩, ⟨fR0, fR1, fR2⟩, zR⟩ := HR.out
              obtain ⟨⟨qZ0, qZ1, qZ2⟩, ⟨fZ0, fZ1, fZ2⟩, zZ⟩ := HZ.out
              go_wp2_with fail
              refine bodyPost_ret (v := .tuple #[.agg #[.int .i64 0, .int .i64 0, .int .i64 0], .int .i64 2]) (by simp (maxDischargeDepth := 8) [results, Try.results5, go_sem, *]) rfl ?_
              have hb := HB.out
              exact ⟨by rw [HNO.out HF.out], by (repeat' (first | (with_reducible exact Below.refl _ _) | (with_reducible refine Below.alloc ?_ ?_ _) | (with_reducible refine Below.setCell ?_ ?_ _) | (with_reducible refine Below.drew ?_) | (with_reducible refine below_drewN ?_ _) | (with_reducible assumption) | (with_reducible refine below_after (by with_reducible assumption) ?_) | go_size))⟩
          · have hge : ¬ (k : Int) < (n : Int) := by omega
            have HOKD : Hid (okD xss = true) := by
              show _ = _
              have := HALL.out
              rw [List.take_of_length_le (by rw [HXL.out]; omega)] at this
              unfold okD
              rw [this, HXL.out]
              simpa using H60.out
            have HV : Hid (tdR xss 0 r1 r2 = .tuple #[.agg #[.int .i64 (tdO (tdF xss n 0 r1 r2)).1, .int .i64 (tdO (tdF xss n 0 r1 r2)).2.1, .int .i64 (tdO (tdF xss n 0 r1 r2)).2.2], .int .i64 (tdC (tdF xss n 0 r1 r2))]) := by
              show _ = _
              have := tdR_go (xss := xss) HTR.out (by rw [HOKD.out]; rfl)
              rwa [HXL.out] at this
            obtain ⟨RES, hRES⟩ : ∃ RES, tdF xss n 0 r1 r2 = RES := ⟨_, rfl⟩
            rw [hRES] at HV
            have HF0 := Lib.hid hRES
            clear hRES HNOX
            obtain ⟨⟨qR0, qR1, qR2⟩, ⟨fR0, fR1, fR2⟩, zR⟩ := HR.out
            obtain ⟨⟨qZ0, qZ1, qZ2⟩, ⟨fZ0, fZ1, fZ2⟩, zZ⟩ := HZ.out
            go_wp2_with fail
            clear qR0 fR0 qR1 fR1 qR2 fR2 zR qZ0 fZ0 qZ1 fZ1 qZ2 fZ2 zZ
            have HNE : Hid (GR ≠ GZ ∧ GZ ≠ GR ∧ w.heap.size ≤ GR ∧ w.heap.size ≤ GZ) := ⟨ne_R_Z, ne_Z_R, le_R, le_Z⟩
            go_loopw [7] (fun y wr => ∃ (k : Nat) (a b c : Int), y = .int .i64 ((k : Int) - 1) ∧ k ≤ n ∧ isTr a b c = true ∧ tdF xss k a b c = RES ∧ Bk3 wr GR a b c ∧ Bk3 wr GZ 0 0 0 ∧ Below w.heap.size w wr) (fun y _ => (intOf y + 1).toNat)
            case atStart => exact ⟨n, 0, r1, r2, by first | rfl | go_num, by omega, HTR.out, HF0.out, HR.out, HZ.out, HB.out⟩
            case round =>
              obtain ⟨k, a, b, c, rfl, hk, htr, hf, hR, hZ, hbel⟩ := hrel
              clear HR HZ HB HRD HF0
              have HR := Lib.hid hR
              have HZ := Lib.hid hZ
              have HB := Lib.hid hbel
              have HRD := Lib.hid (HRD0.out.below hbel)
              have HT := Lib.hid htr
              have HF := Lib.hid hf
              clear hR hZ hbel htr hf
              obtain ⟨ne_R_Z, ne_Z_R, le_R, le_Z⟩ := HNE.out
              by_cases h0 : k = 0
              · subst h0
                rw [show (((0 : Nat) : Int) - 1) = -1 from rfl]
                have HW : Hid (tdR xss 0 r1 r2 = .tuple #[.agg #[.int .i64 a, .int .i64 b, .int .i64 c], .int .i64 0]) := by show _ = _; rw [HV.out, ← HF.out]; rfl
                obtain ⟨⟨qR0, qR1, qR2⟩, ⟨fR0, fR1, fR2⟩, zR⟩ := HR.out
                obtain ⟨⟨qZ0, qZ1, qZ2⟩, ⟨fZ0, fZ1, fZ2⟩, zZ⟩ := HZ.out
                go_wp2_with fail
                refine bodyPost_ret (v := .tuple #[.agg #[.int .i64 a, .int .i64 b, .int .i64 c], .int .i64 0]) (by simp (maxDischargeDepth := 8) [results, Try.results5, go_sem, *]) rfl ?_
                have hb := HB.out
                exact ⟨by rw [HW.out], by (repeat' (first | (with_reducible exact Below.refl _ _) | (with_reducible refine Below.alloc ?_ ?_ _) | (with_reducible refine Below.setCell ?_ ?_ _) | (with_reducible refine Below.drew ?_) | (with_reducible refine below_drewN ?_ _) | (with_reducible assumption) | (with_reducible refine below_after (by with_reducible assumption) ?_) | go_size))⟩
              · obtain ⟨j, hj⟩ : ∃ j, k = j + 1 := ⟨k - 1, by omega⟩
                subst hj
                have hj0 : ((j + 1 : Nat) : Int) - 1 = (j : Int) := by omega
                rw [hj0]
                have hjn : j < n := by omega
                have HJ0 := Lib.hid hj0
                clear h0 hj0
                have HJN := Lib.hid hjn
                obtain ⟨g', rfl, hg', hc⟩ := HRD.out.2.2.1 (by omega)
                have e1 := hc j hjn
                obtain ⟨ai, ci, hv, hcs⟩ := HRD.out.2.2.2 j hjn
                rw [hv] at e1
                have hokp := okP_parts (okD_at HOKD.out j (by rw [HXL.out]; exact hjn))
                obtain ⟨hlen, hp0, hp1⟩ := hokp
                obtain ⟨g, rfl, hg, hcg⟩ := hcs (by omega)
                have c0 := hcg 0 (by omega)
                have c1 := hcg 1 (by omega)
                rw [hlen] at e1
                have HGO := Lib.hid (fun h => (tdF_go (xss := xss) (k := j) (a := a) (b := b) (c := c) h).symm.trans HF.out)
                have HST := Lib.hid (fun h => (tdF_no (xss := xss) (k := j) (a := a) (b := b) (c := c) h).symm.trans HF.out)
                have hbd := td_bd HT.out hp0 hp1
                have hnx := isTr_next HT.out hp0.1 hp1.1
                generalize (xss.getD j []).getD 0 0 = p at *
                generalize (xss.getD j []).getD 1 0 = q at *
                obtain ⟨bd0, bd1, bd2, bd3, bd4, bd5, bd6, bd7, bd8, bd9⟩ := hbd
                have i0 : (0 : Int) ≤ (j : Int) := by omega
                have i1 : (j : Int) < (n : Int) := by omega
                have li0 : (0 : Int) < 2 := by omega
                have li1 : (1 : Int) < 2 := by omega
                have wa : wrap64 (p * c) = p * c := IntWalk.wrap64_in _ ⟨by omega, by omega⟩
                have wb : wrap64 (q * c) = q * c := IntWalk.wrap64_in _ ⟨by omega, by omega⟩
                have wc' : wrap64 (a + p * c) = a + p * c := IntWalk.wrap64_in _ ⟨by omega, by omega⟩
                have wd : wrap64 (b + q * c) = b + q * c := IntWalk.wrap64_in _ ⟨by omega, by omega⟩
                clear hc hv hcs hcg hlen hp0 hp1 hg hg'
                cases hq : (wh c && wh (a + p * c) && wh (b + q * c))
                · have HI2 : Hid (∀ w, Calls Try.prog 12 #[.agg #[.int .i64 c, .int .i64 (a + p * c), .int .i64 (b + q * c)]] w fun e w' => e = .returned (.bool false) ∧ Below w.heap.size w w') := fun w => by have := l07Is_any c (a + p * c) (b + q * c) w; rwa [hnx, hq] at this
                  have HW : Hid (tdR xss 0 r1 r2 = .tuple #[.agg #[.int .i64 0, .int .i64 0, .int .i64 0], .int .i64 3]) := by show _ = _; rw [HV.out, ← HST.out hq]; rfl
                  clear hq hnx HGO HST
                  obtain ⟨⟨qR0, qR1, qR2⟩, ⟨fR0, fR1, fR2⟩, zR⟩ := HR.out
                  obtain ⟨⟨qZ0, qZ1, qZ2⟩, ⟨fZ0, fZ1, fZ2⟩, zZ⟩ := HZ.out
                  go_upto_region 13 with fail
                  go_still_tail 27, (by kernel_rfl)
                  change wpList _ _ _ _ _ (World.drew _)
                  obtain ⟨w81, hw81⟩ : ∃ wx, wr.drew = wx := ⟨_, rfl⟩
                  rw [hw81]
                  clear qR0 fR0 qR1 fR1 qR2 fR2 zR qZ0 fZ0 qZ1 fZ1 qZ2 fZ2 zZ
                  have HR := Lib.hid (HR.out.below (Below.drew (Below.refl _ _)))
                  have HZ := Lib.hid (HZ.out.below (Below.drew (Below.refl _ _)))
                  have HB := Lib.hid (Below.drew HB.out)
                  rw [hw81] at HR HZ HB
                  clear hw81
                  obtain ⟨⟨qR0, qR1, qR2⟩, ⟨fR0, fR1, fR2⟩, zR⟩ := HR.out
                  obtain ⟨⟨qZ0, qZ1, qZ2⟩, ⟨fZ0, fZ1, fZ2⟩, zZ⟩ := HZ.out
                  go_upto_region 14 with fail
                  obtain ⟨w82, hw82⟩ : ∃ wx, wx = (((w81.setCell ⟨GR, 0, none⟩ (.int .i64 c)).setCell ⟨GR, 1, none⟩ (.int .i64 (a + p * c))).setCell ⟨GR, 2, none⟩ (.int .i64 (b + q * c))) := ⟨_, rfl⟩
                  rw [← hw82]
                  clear qR0 fR0 qR1 fR1 qR2 fR2 zR qZ0 fZ0 qZ1 fZ1 qZ2 fZ2 zZ
                  have HZ := Lib.hid (((HZ.out.far ⟨GR, 0, none⟩ (.int .i64 c) (by show GZ ≠ GR; exact ne_Z_R)).far ⟨GR, 1, none⟩ (.int .i64 (a + p * c)) (by show GZ ≠ GR; exact ne_Z_R)).far ⟨GR, 2, none⟩ (.int .i64 (b + q * c)) (by show GZ ≠ GR; exact ne_Z_R))
                  have HR := Lib.hid (((HR.out.set0 c).set1 (a + p * c)).set2 (b + q * c))
                  have HB := Lib.hid (Below.setCell (Below.setCell (Below.setCell HB.out (p := ⟨GR, 0, none⟩) le_R (.int .i64 c)) (p := ⟨GR, 1, none⟩) le_R (.int .i64 (a + p * c))) (p := ⟨GR, 2, none⟩) le_R (.int .i64 (b + q * c)))
                  rw [← hw82] at HR HZ HB
                  clear hw82
                  obtain ⟨⟨qR0, qR1, qR2⟩, ⟨fR0, fR1, fR2⟩, zR⟩ := HR.out
                  obtain ⟨⟨qZ0, qZ1, qZ2⟩, ⟨fZ0, fZ1, fZ2⟩, zZ⟩ := HZ.out
                  go_wp2_with fail
                  go_at_call 12
                  refine (HI2.out _).mono ?_
                  rintro e w83 ⟨rfl, hb⟩
                  clear qR0 fR0 qR1 fR1 qR2 fR2 zR qZ0 fZ0 qZ1 fZ1 qZ2 fZ2 zZ
                  have HR := Lib.hid (HR.out.below hb)
                  have HZ := Lib.hid (HZ.out.below hb)
                  have HB := Lib.hid (below_after hb HB.out)
                  clear hb
                  obtain ⟨⟨qR0, qR1, qR2⟩, ⟨fR0, fR1, fR2⟩, zR⟩ := HR.out
                  obtain ⟨⟨qZ0, qZ1, qZ2⟩, ⟨fZ0, fZ1, fZ2⟩, zZ⟩ := HZ.out
                  go_wp2_with fail
                  refine bodyPost_ret (v := .tuple #[.agg #[.int .i64 0, .int .i64 0, .int .i64 0], .int .i64 3]) (by simp (maxDischargeDepth := 8) [results, Try.results5, go_sem, *]) rfl ?_
                  have hb := HB.out
                  exact ⟨by rw [HW.out], by (repeat' (first | (with_reducible exact Below.refl _ _) | (with_reducible refine Below.alloc ?_ ?_ _) | (with_reducible refine Below.setCell ?_ ?_ _) | (with_reducible refine Below.drew ?_) | (with_reducible refine below_drewN ?_ _) | (with_reducible assumption) | (with_reducible refine below_after (by with_reducible assumption) ?_) | go_size))⟩
                · have HI2 : Hid (∀ w, Calls Try.prog 12 #[.agg #[.int .i64 c, .int .i64 (a + p * c), .int .i64 (b + q * c)]] w fun e w' => e = .returned (.bool true) ∧ Below w.heap.size w w') := fun w => by have := l07Is_any c (a + p * c) (b + q * c) w; rwa [hnx, hq] at this
                  have HT2 : Hid (isTr c (a + p * c) (b + q * c) = true) := by show _ = _; rw [hnx, hq]
                  have HF2 := Lib.hid (HGO.out hq)
                  clear hq hnx HGO HST
                  obtain ⟨⟨qR0, qR1, qR2⟩, ⟨fR0, fR1, fR2⟩, zR⟩ := HR.out
                  obtain ⟨⟨qZ0, qZ1, qZ2⟩, ⟨fZ0, fZ1, fZ2⟩, zZ⟩ := HZ.out
                  go_upto_region 13 with fail
                  go_still_tail 27, (by kernel_rfl)
                  change wpList _ _ _ _ _ (World.drew _)
                  obtain ⟨w121, hw121⟩ : ∃ wx, wr.drew = wx := ⟨_, rfl⟩
                  rw [hw121]
                  clear qR0 fR0 qR1 fR1 qR2 fR2 zR qZ0 fZ0 qZ1 fZ1 qZ2 fZ2 zZ
                  have HR := Lib.hid (HR.out.below (Below.drew (Below.refl _ _)))
                  have HZ := Lib.hid (HZ.out.below (Below.drew (Below.refl _ _)))
                  have HB := Lib.hid (Below.drew HB.out)
                  rw [hw121] at HR HZ HB
                  clear hw121
                  obtain ⟨⟨qR0, qR1, qR2⟩, ⟨fR0, fR1, fR2⟩, zR⟩ := HR.out
                  obtain ⟨⟨qZ0, qZ1, qZ2⟩, ⟨fZ0, fZ1, fZ2⟩, zZ⟩ := HZ.out
                  go_upto_region 14 with fail
                  obtain ⟨w122, hw122⟩ : ∃ wx, wx = (((w121.setCell ⟨GR, 0, none⟩ (.int .i64 c)).setCell ⟨GR, 1, none⟩ (.int .i64 (a + p * c))).setCell ⟨GR, 2, none⟩ (.int .i64 (b + q * c))) := ⟨_, rfl⟩
                  rw [← hw122]
                  clear qR0 fR0 qR1 fR1 qR2 fR2 zR qZ0 fZ0 qZ1 fZ1 qZ2 fZ2 zZ
                  have HZ := Lib.hid (((HZ.out.far ⟨GR, 0, none⟩ (.int .i64 c) (by show GZ ≠ GR; exact ne_Z_R)).far ⟨GR, 1, none⟩ (.int .i64 (a + p * c)) (by show GZ ≠ GR; exact ne_Z_R)).far ⟨GR, 2, none⟩ (.int .i64 (b + q * c)) (by show GZ ≠ GR; exact ne_Z_R))
                  have HR := Lib.hid (((HR.out.set0 c).set1 (a + p * c)).set2 (b + q * c))
                  have HB := Lib.hid (Below.setCell (Below.setCell (Below.setCell HB.out (p := ⟨GR, 0, none⟩) le_R (.int .i64 c)) (p := ⟨GR, 1, none⟩) le_R (.int .i64 (a + p * c))) (p := ⟨GR, 2, none⟩) le_R (.int .i64 (b + q * c)))
                  rw [← hw122] at HR HZ HB
                  clear hw122
                  obtain ⟨⟨qR0, qR1, qR2⟩, ⟨fR0, fR1, fR2⟩, zR⟩ := HR.out
                  obtain ⟨⟨qZ0, qZ1, qZ2⟩, ⟨fZ0, fZ1, fZ2⟩, zZ⟩ := HZ.out
                  go_wp2_with fail
                  go_at_call 12
                  refine (HI2.out _).mono ?_
                  rintro e w123 ⟨rfl, hb⟩
                  clear qR0 fR0 qR1 fR1 qR2 fR2 zR qZ0 fZ0 qZ1 fZ1 qZ2 fZ2 zZ
                  have HR := Lib.hid (HR.out.below hb)
                  have HZ := Lib.hid (HZ.out.below hb)
                  have HB := Lib.hid (below_after hb HB.out)
                  clear hb
                  obtain ⟨⟨qR0, qR1, qR2⟩, ⟨fR0, fR1, fR2⟩, zR⟩ := HR.out
                  obtain ⟨⟨qZ0, qZ1, qZ2⟩, ⟨fZ0, fZ1, fZ2⟩, zZ⟩ := HZ.out
                  go_wp2_with fail
                  go_roundw
                  case rel => exact ⟨j, _, _, _, by first | rfl | go_num, by have := HJN.out; omega, HT2.out, HF2.out, HR.out, HZ.out, HB.out⟩
                  case measure => simp only [intOf]; omega
      · have h60i : (60 : Int) < (n : Int) := by omega
        have HV : Hid (tdR xss r0 r1 r2 = .tuple #[.agg #[.int .i64 0, .int .i64 0, .int .i64 0], .int .i64 2]) := tdR_rng HTR.out (by unfold okD; rw [HXL.out]; simp [h60])
        subst h0
        obtain ⟨GR, hG⟩ : ∃ G, w.heap.size = G := ⟨_, rfl⟩
        have HG := Lib.hid hG
        go_enter Try.func5, Try.ntmps5
        go_upto_region 1 with fail
        obtain ⟨w0, hw0⟩ : ∃ w0, w0 = ((w.alloc (.cells #[.int .i64 0, .int .i64 r1, .int .i64 r2] 25)).alloc (.cells #[.int .i64 0, .int .i64 0, .int .i64 0] 25)) := ⟨_, rfl⟩
        rw [← hw0]
        have HR : Hid (Bk3 w0 GR 0 r1 r2) := by
          have h := (bk3_new w 0 r1 r2 25).below (W' := ((w.alloc (.cells #[.int .i64 0, .int .i64 r1, .int .i64 r2] 25)).alloc (.cells #[.int .i64 0, .int .i64 0, .int .i64 0] 25))) (by (repeat' (first | (with_reducible exact Below.refl _ _) | (with_reducible refine Below.alloc ?_ ?_ _) | (with_reducible refine Below.setCell ?_ ?_ _) | (with_reducible refine Below.drew ?_) | (with_reducible refine below_drewN ?_ _) | (with_reducible assumption) | (with_reducible refine below_after (by with_reducible assumption) ?_) | go_size)))
          (try simp only [World.size_alloc] at h)
          rw [hG] at h
          rw [hw0]; exact h
        have HZ : Hid (Bk3 w0 (GR + 1) 0 0 0) := by
          have h := (bk3_new (w.alloc (.cells #[.int .i64 0, .int .i64 r1, .int .i64 r2] 25)) 0 0 0 25).below (W' := ((w.alloc (.cells #[.int .i64 0, .int .i64 r1, .int .i64 r2] 25)).alloc (.cells #[.int .i64 0, .int .i64 0, .int .i64 0] 25))) (by (repeat' (first | (with_reducible exact Below.refl _ _) | (with_reducible refine Below.alloc ?_ ?_ _) | (with_reducible refine Below.setCell ?_ ?_ _) | (with_reducible refine Below.drew ?_) | (with_reducible refine below_drewN ?_ _) | (with_reducible assumption) | (with_reducible refine below_after (by with_reducible assumption) ?_) | go_size)))
          (try simp only [World.size_alloc] at h)
          rw [hG] at h
          rw [hw0]; exact h
        have HB : Hid (Below w.heap.size w w0) := by show Below w.heap.size w w0; rw [hw0]; (repeat' (first | (with_reducible exact Below.refl _ _) | (with_reducible refine Below.alloc ?_ ?_ _) | (with_reducible refine Below.setCell ?_ ?_ _) | (with_reducible refine Below.drew ?_) | (with_reducible refine below_drewN ?_ _) | (with_reducible assumption) | (with_reducible refine below_after (by with_reducible assumption) ?_) | go_size))
        clear hw0
        obtain ⟨GZ, hGZ⟩ : ∃ g, GR + 1 = g := ⟨_, rfl⟩
        rw [hGZ] at HZ ⊢
        have le_R : w.heap.size ≤ GR := by omega
        have le_Z : w.heap.size ≤ GZ := by omega
        have ne_Z_R : GZ ≠ GR := by omega
        have ne_R_Z : GR ≠ GZ := by omega
        clear hGZ
        obtain ⟨⟨qR0, qR1, qR2⟩, ⟨fR0, fR1, fR2⟩, zR⟩ := HR.out
        obtain ⟨⟨qZ0, qZ1, qZ2⟩, ⟨fZ0, fZ1, fZ2⟩, zZ⟩ := HZ.out
        go_wp2_with fail
        go_at_call 12
        refine (HI.out _).mono ?_
        rintro e w1 ⟨rfl, hb⟩
        clear qR0 fR0 qR1 fR1 qR2 fR2 zR qZ0 fZ0 qZ1 fZ1 qZ2 fZ2 zZ
        have HR := Lib.hid (HR.out.below hb)
        have HZ := Lib.hid (HZ.out.below hb)
        have HB := Lib.hid (below_after hb HB.out)
        clear hb
        obtain ⟨⟨qR0, qR1, qR2⟩, ⟨fR0, fR1, fR2⟩, zR⟩ := HR.out
        obtain ⟨⟨qZ0, qZ1, qZ2⟩, ⟨fZ0, fZ1, fZ2⟩, zZ⟩ := HZ.out
        go_wp2_with fail
        refine bodyPost_ret (v := .tuple #[.agg #[.int .i64 0, .int .i64 0, .int .i64 0], .int .i64 2]) (by simp (maxDischargeDepth := 8) [results, Try.results5, go_sem, *]) rfl ?_
        have hb := HB.out
        exact ⟨by rw [HV.out], by (repeat' (first | (with_reducible exact Below.refl _ _) | (with_reducible refine Below.alloc ?_ ?_ _) | (with_reducible refine Below.setCell ?_ ?_ _) | (with_reducible refine Below.drew ?_) | (with_reducible refine below_drewN ?_ _) | (with_reducible assumption) | (with_reducible refine below_after (by with_reducible assumption) ?_) | go_size))⟩
    · have hz : (r0 == 0) = false := by simpa using h0
      have HV : Hid (tdR xss r0 r1 r2 = .tuple #[.agg #[.int .i64 0, .int .i64 0, .int .i64 0], .int .i64 2]) := tdR_rng HTR.out (by rw [hz]; rfl)
      obtain ⟨GR, hG⟩ : ∃ G, w.heap.size = G := ⟨_, rfl⟩
      have HG := Lib.hid hG
      go_enter Try.func5, Try.ntmps5
      go_upto_region 1 with fail
      obtain ⟨w0, hw0⟩ : ∃ w0, w0 = ((w.alloc (.cells #[.int .i64 r0, .int .i64 r1, .int .i64 r2] 25)).alloc (.cells #[.int .i64 0, .int .i64 0, .int .i64 0] 25)) := ⟨_, rfl⟩
      rw [← hw0]
      have HR : Hid (Bk3 w0 GR r0 r1 r2) := by
        have h := (bk3_new w r0 r1 r2 25).below (W' := ((w.alloc (.cells #[.int .i64 r0, .int .i64 r1, .int .i64 r2] 25)).alloc (.cells #[.int .i64 0, .int .i64 0, .int .i64 0] 25))) (by (repeat' (first | (with_reducible exact Below.refl _ _) | (with_reducible refine Below.alloc ?_ ?_ _) | (with_reducible refine Below.setCell ?_ ?_ _) | (with_reducible refine Below.drew ?_) | (with_reducible refine below_drewN ?_ _) | (with_reducible assumption) | (with_reducible refine below_after (by with_reducible assumption) ?_) | go_size)))
        (try simp only [World.size_alloc] at h)
        rw [hG] at h
        rw [hw0]; exact h
      have HZ : Hid (Bk3 w0 (GR + 1) 0 0 0) := by
        have h := (bk3_new (w.alloc (.cells #[.int .i64 r0, .int .i64 r1, .int .i64 r2] 25)) 0 0 0 25).below (W' := ((w.alloc (.cells #[.int .i64 r0, .int .i64 r1, .int .i64 r2] 25)).alloc (.cells #[.int .i64 0, .int .i64 0, .int .i64 0] 25))) (by (repeat' (first | (with_reducible exact Below.refl _ _) | (with_reducible refine Below.alloc ?_ ?_ _) | (with_reducible refine Below.setCell ?_ ?_ _) | (with_reducible refine Below.drew ?_) | (with_reducible refine below_drewN ?_ _) | (with_reducible assumption) | (with_reducible refine below_after (by with_reducible assumption) ?_) | go_size)))
        (try simp only [World.size_alloc] at h)
        rw [hG] at h
        rw [hw0]; exact h
      have HB : Hid (Below w.heap.size w w0) := by show Below w.heap.size w w0; rw [hw0]; (repeat' (first | (with_reducible exact Below.refl _ _) | (with_reducible refine Below.alloc ?_ ?_ _) | (with_reducible refine Below.setCell ?_ ?_ _) | (with_reducible refine Below.drew ?_) | (with_reducible refine below_drewN ?_ _) | (with_reducible assumption) | (with_reducible refine below_after (by with_reducible assumption) ?_) | go_size))
      clear hw0
      obtain ⟨GZ, hGZ⟩ : ∃ g, GR + 1 = g := ⟨_, rfl⟩
      rw [hGZ] at HZ ⊢
      have le_R : w.heap.size ≤ GR := by omega
      have le_Z : w.heap.size ≤ GZ := by omega
      have ne_Z_R : GZ ≠ GR := by omega
      have ne_R_Z : GR ≠ GZ := by omega
      clear hGZ
      obtain ⟨⟨qR0, qR1, qR2⟩, ⟨fR0, fR1, fR2⟩, zR⟩ := HR.out
      obtain ⟨⟨qZ0, qZ1, qZ2⟩, ⟨fZ0, fZ1, fZ2⟩, zZ⟩ := HZ.out
      go_wp2_with fail
      go_at_call 12
      refine (HI.out _).mono ?_
      rintro e w1 ⟨rfl, hb⟩
      clear qR0 fR0 qR1 fR1 qR2 fR2 zR qZ0 fZ0 qZ1 fZ1 qZ2 fZ2 zZ
      have HR := Lib.hid (HR.out.below hb)
      have HZ := Lib.hid (HZ.out.below hb)
      have HB := Lib.hid (below_after hb HB.out)
      clear hb
      obtain ⟨⟨qR0, qR1, qR2⟩, ⟨fR0, fR1, fR2⟩, zR⟩ := HR.out
      obtain ⟨⟨qZ0, qZ1, qZ2⟩, ⟨fZ0, fZ1, fZ2⟩, zZ⟩ := HZ.out
      go_wp2_with fail
      refine bodyPost_ret (v := .tuple #[.agg #[.int .i64 0, .int .i64 0, .int .i64 0], .int .i64 2]) (by simp (maxDischargeDepth := 8) [results, Try.results5, go_sem, *]) rfl ?_
      have hb := HB.out
      exact ⟨by rw [HV.out], by (repeat' (first | (with_reducible exact Below.refl _ _) | (with_reducible refine Below.alloc ?_ ?_ _) | (with_reducible refine Below.setCell ?_ ?_ _) | (with_reducible refine Below.drew ?_) | (with_reducible refine below_drewN ?_ _) | (with_reducible assumption) | (with_reducible refine below_after (by with_reducible assumption) ?_) | go_size))⟩
end Go.Proofs.Ythckbobbnkhnpaa
