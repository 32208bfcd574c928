/-
  The walk of laws.FnBests: for all arguments it returns true and leaves memory as it was. No conditions (own work).
-/
import Derived.Test.YtibmkmcdggokbaaBig
import Derived.Test.YtibmkmcdggokbaaBeU
import Derived.Test.YtibmkmcdggokbaaBeV
import Derived.Deep.DeepCutAuto
import Derived.Deep.Cut
namespace Go.Proofs.Ytibmkmcdggokbaa
open Go.ChangeShapes Go.WideShapes Go.ChangeAt Go.RowKit
set_option linter.unusedVariables false
set_option linter.unusedSimpArgs false
set_option maxRecDepth 100000

set_option maxHeartbeats 16000000 in
theorem walkFnBests (a : Option Addr) (n cap : Nat) (zs : List Int) (w : World) (hR : IsRow .u8 w a n cap zs) :
    Calls Try.prog 3 #[.slice a n cap] w fun e w' => e = .returned (.bool true) ∧ Below w.heap.size w w' := by
  have heq := eq_pt
  have hn := row_len hR
  have hby := byt_of_row hR
  have CB := Lib.hid (fun w => big_any a n cap w hn)
  by_cases hbig : (4096 : Int) < (n : Int)
  · clear hR hby
    have d1 : decide ((4096 : Int) < (n : Int)) = true := by simpa using hbig
    rw [d1] at CB
    go_enter Try.func3, Try.ntmps3
    go_wp2_with (first | (go_at_call 4; refine (CB.out _).mono ?_; rintro e wn ⟨rfl, hb⟩; first | (have h2 := after_call2 hb hcl hfr hlt (by ((repeat' (first | (with_reducible exact Below.refl _ _) | (with_reducible refine Below.alloc ?_ ?_ _) | (with_reducible refine Below.setCell ?_ ?_ _) | (with_reducible refine Below.drew ?_) | (with_reducible refine below_drewN ?_ _) | (with_reducible assumption) | (with_reducible refine below_after (by with_reducible assumption) ?_) | go_size)); done)); obtain ⟨hclx, hfrx, hltx, hsz⟩ := after_call hb; (try simp only [World.size_alloc, World.size_setCell, World.size_drew] at hclx hfrx hltx hsz); (try (have hszl := Nat.lt_of_succ_le hsz)); obtain ⟨hcl, hfr, hlt⟩ := h2) | (obtain ⟨hcl, hfr, hlt, hsz⟩ := after_call hb; (try simp only [World.size_alloc, World.size_setCell, World.size_drew] at hcl hfr hlt hsz))))
    go_ret
    exact ⟨rfl, by (repeat' (first | (with_reducible exact Below.refl _ _) | (with_reducible refine Below.alloc ?_ ?_ _) | (with_reducible refine Below.setCell ?_ ?_ _) | (with_reducible refine Below.drew ?_) | (with_reducible refine below_drewN ?_ _) | (with_reducible assumption) | (with_reducible refine below_after (by with_reducible assumption) ?_) | go_size))⟩
  · have d1 : decide ((4096 : Int) < (n : Int)) = false := by simpa using hbig
    rw [d1] at CB
    have CD0 := Lib.hid (fun W (hW : Below w.heap.size w W) => DrawBestOfSecond_any a n cap W hn (hby.over hW))
    have CD1 := Lib.hid (fun W (hW : Below w.heap.size w W) => DrawBestOfFirst_any a n cap W hn (hby.over hW))
    have CD2 := Lib.hid (fun W (hW : Below w.heap.size w W) => DrawNearestFraction_any a n cap W hn (hby.over hW))
    have CD3 := Lib.hid (fun W (hW : Below w.heap.size w W) => DrawIsConvergent_any a n cap W hn (hby.over hW))
    have CD4 := Lib.hid (fun W (hW : Below w.heap.size w W) => DrawCompareRatios_any a n cap W hn (hby.over hW))
    have HB : Hid (Below w.heap.size w w) := Below.refl _ _
    clear hR hby d1 hbig
    go_enter Try.func3, Try.ntmps3
    go_wp2_with fail
    go_at_call 4
    refine (CB.out _).mono ?_
    rintro e w1 ⟨rfl, hb⟩
    have HB := Lib.hid (below_after hb HB.out)
    clear hb
    go_wp2_with fail
    go_at_call 5
    refine (CD0.out _ HB.out).mono ?_
    rintro e w2 ⟨p1, q1, k1, -, rfl, hb⟩
    have HB := Lib.hid (below_after hb HB.out)
    clear hb
    have I1 := Lib.hid (fun w => impl_BestOfSecond_any p1 q1 k1 w)
    have S1 := Lib.hid (fun w => spec_BestOfSecond_any p1 q1 k1 w)
    have hl1 := bs_len true p1 q1 k1
    unfold RetPC at I1 S1
    obtain ⟨N1, EN1⟩ : ∃ x, (bsL true p1 q1 k1).length = x := ⟨_, rfl⟩
    obtain ⟨z1, EZ1⟩ : ∃ x, flat (bsL true p1 q1 k1) = x := ⟨_, rfl⟩
    obtain ⟨c1, EC1⟩ : ∃ x, bsC p1 q1 k1 = x := ⟨_, rfl⟩
    rw [EN1, EZ1, EC1] at I1 S1
    rw [EN1] at hl1
    have HEN1 := Lib.hid EN1
    have HEZ1 := Lib.hid EZ1
    have HEC1 := Lib.hid EC1
    clear EN1 EZ1 EC1
    go_wp2_with fail
    go_at_call 6
    refine (I1.out _).mono ?_
    rintro e w3 ⟨v1, rfl, ho, hb⟩
    have HB := Lib.hid (below_after hb HB.out)
    clear hb
    obtain ⟨va1, vc1, rfl, -⟩ := own_viewF ho
    have HV1 := Lib.hid ho
    clear ho
    go_wp2_with fail
    go_at_call 7
    refine (S1.out _).mono ?_
    rintro e w4 ⟨vv, rfl, ho, hb⟩
    have HV1 := Lib.hid (HV1.out.below hb)
    have HB := Lib.hid (below_after hb HB.out)
    clear hb
    obtain ⟨vva, vvc, rfl, -⟩ := own_viewF ho
    have HVV := Lib.hid ho
    clear ho
    go_wp2_with fail
    go_at_call 8
    refine (points9_same _ _ _ _ _ _ _ HV1.out HVV.out (by omega)).mono ?_
    rintro e w5 ⟨rfl, hb⟩
    have HV1 := Lib.hid (HV1.out.below hb)
    have HVV := Lib.hid (HVV.out.below hb)
    have HB := Lib.hid (below_after hb HB.out)
    clear hb
    clear HVV I1 S1
    go_wp2_with fail
    go_at_call 9
    refine (CD1.out _ HB.out).mono ?_
    rintro e w6 ⟨r1, s1, m1, -, rfl, hb⟩
    have HV1 := Lib.hid (HV1.out.below hb)
    have HB := Lib.hid (below_after hb HB.out)
    clear hb
    have I3 := Lib.hid (fun w => impl_BestOfFirst_any r1 s1 m1 w)
    have S3 := Lib.hid (fun w => spec_BestOfFirst_any r1 s1 m1 w)
    have hl3 := bs_len false r1 s1 m1
    unfold RetPC at I3 S3
    obtain ⟨N3, EN3⟩ : ∃ x, (bsL false r1 s1 m1).length = x := ⟨_, rfl⟩
    obtain ⟨z3, EZ3⟩ : ∃ x, flat (bsL false r1 s1 m1) = x := ⟨_, rfl⟩
    obtain ⟨c3, EC3⟩ : ∃ x, bsC r1 s1 m1 = x := ⟨_, rfl⟩
    rw [EN3, EZ3, EC3] at I3 S3
    rw [EN3] at hl3
    have HEN3 := Lib.hid EN3
    have HEZ3 := Lib.hid EZ3
    have HEC3 := Lib.hid EC3
    clear EN3 EZ3 EC3
    go_wp2_with fail
    go_at_call 10
    refine (I3.out _).mono ?_
    rintro e w7 ⟨v3, rfl, ho, hb⟩
    have HV1 := Lib.hid (HV1.out.below hb)
    have HB := Lib.hid (below_after hb HB.out)
    clear hb
    obtain ⟨va3, vc3, rfl, -⟩ := own_viewF ho
    have HV3 := Lib.hid ho
    clear ho
    go_wp2_with fail
    go_at_call 11
    refine (S3.out _).mono ?_
    rintro e w8 ⟨vv, rfl, ho, hb⟩
    have HV1 := Lib.hid (HV1.out.below hb)
    have HV3 := Lib.hid (HV3.out.below hb)
    have HB := Lib.hid (below_after hb HB.out)
    clear hb
    obtain ⟨vva, vvc, rfl, -⟩ := own_viewF ho
    have HVV := Lib.hid ho
    clear ho
    go_wp2_with fail
    go_at_call 8
    refine (points9_same _ _ _ _ _ _ _ HV3.out HVV.out (by omega)).mono ?_
    rintro e w9 ⟨rfl, hb⟩
    have HV1 := Lib.hid (HV1.out.below hb)
    have HV3 := Lib.hid (HV3.out.below hb)
    have HVV := Lib.hid (HVV.out.below hb)
    have HB := Lib.hid (below_after hb HB.out)
    clear hb
    clear HVV I3 S3
    go_wp2_with fail
    go_at_call 12
    refine (CD2.out _ HB.out).mono ?_
    rintro e w10 ⟨u1, v1, k2, -, rfl, hb⟩
    have HV1 := Lib.hid (HV1.out.below hb)
    have HV3 := Lib.hid (HV3.out.below hb)
    have HB := Lib.hid (below_after hb HB.out)
    clear hb
    have I5 := Lib.hid (fun w => impl_NearestFraction_any u1 v1 k2 w)
    have S5 := Lib.hid (fun w => spec_NearestFraction_any u1 v1 k2 w)
    generalize nfX u1 v1 k2 = x5 at *
    generalize nfY u1 v1 k2 = y5 at *
    generalize bsC u1 v1 k2 = c5 at *
    go_wp2_with fail
    go_at_call 13
    refine (I5.out _).mono ?_
    rintro e w11 ⟨rfl, hb⟩
    have HV1 := Lib.hid (HV1.out.below hb)
    have HV3 := Lib.hid (HV3.out.below hb)
    have HB := Lib.hid (below_after hb HB.out)
    clear hb
    go_upto_region 15 with fail
    obtain ⟨GP, hGP⟩ : ∃ g, w11.heap.size = g := ⟨_, rfl⟩
    obtain ⟨w12, hw12⟩ : ∃ wx, wx = w11.alloc (.cells #[.int .i64 x5, .int .i64 y5] 31) := ⟨_, rfl⟩
    rw [← hw12, hGP]
    have HP : Hid (Bk2 w12 GP x5 y5) := by rw [hw12, ← hGP]; exact bk2_new w11 x5 y5 _
    have le_P : w.heap.size ≤ GP := by rw [← hGP]; exact HB.out.size
    have HV1 := Lib.hid (HV1.out.below ((Below.refl _ _).alloc (Nat.le_refl _) (.cells #[.int .i64 x5, .int .i64 y5] 31)))
    have HV3 := Lib.hid (HV3.out.below ((Below.refl _ _).alloc (Nat.le_refl _) (.cells #[.int .i64 x5, .int .i64 y5] 31)))
    have HB := Lib.hid (Below.alloc HB.out HB.out.size (.cells #[.int .i64 x5, .int .i64 y5] 31))
    rw [← hw12] at HV1 HV3 HB
    clear hw12 hGP
    obtain ⟨⟨qP0, qP1⟩, ⟨fP0, fP1⟩, zP⟩ := HP.out
    go_wp2_with fail
    go_at_call 14
    refine (S5.out _).mono ?_
    rintro e w13 ⟨rfl, hb⟩
    clear qP0 fP0 qP1 fP1 zP
    have HP := Lib.hid (HP.out.below hb)
    have HV1 := Lib.hid (HV1.out.below hb)
    have HV3 := Lib.hid (HV3.out.below hb)
    have HB := Lib.hid (below_after hb HB.out)
    clear hb
    obtain ⟨⟨qP0, qP1⟩, ⟨fP0, fP1⟩, zP⟩ := HP.out
    go_upto_region 16 with fail
    obtain ⟨GQ, hGQ⟩ : ∃ g, w13.heap.size = g := ⟨_, rfl⟩
    obtain ⟨w14, hw14⟩ : ∃ wx, wx = w13.alloc (.cells #[.int .i64 x5, .int .i64 y5] 31) := ⟨_, rfl⟩
    rw [← hw14, hGQ]
    have HQ : Hid (Bk2 w14 GQ x5 y5) := by rw [hw14, ← hGQ]; exact bk2_new w13 x5 y5 _
    have le_Q : w.heap.size ≤ GQ := by rw [← hGQ]; exact HB.out.size
    have ne_Q_P : GQ ≠ GP := by have := HP.out.2.2; omega
    have ne_P_Q : GP ≠ GQ := Ne.symm ne_Q_P
    clear qP0 fP0 qP1 fP1 zP
    have HP := Lib.hid (HP.out.below ((Below.refl _ _).alloc (Nat.le_refl _) (.cells #[.int .i64 x5, .int .i64 y5] 31)))
    have HV1 := Lib.hid (HV1.out.below ((Below.refl _ _).alloc (Nat.le_refl _) (.cells #[.int .i64 x5, .int .i64 y5] 31)))
    have HV3 := Lib.hid (HV3.out.below ((Below.refl _ _).alloc (Nat.le_refl _) (.cells #[.int .i64 x5, .int .i64 y5] 31)))
    have HB := Lib.hid (Below.alloc HB.out HB.out.size (.cells #[.int .i64 x5, .int .i64 y5] 31))
    rw [← hw14] at HP HV1 HV3 HB
    clear hw14 hGQ
    clear I5 S5
    obtain ⟨⟨qP0, qP1⟩, ⟨fP0, fP1⟩, zP⟩ := HP.out
    obtain ⟨⟨qQ0, qQ1⟩, ⟨fQ0, fQ1⟩, zQ⟩ := HQ.out
    go_wp2_with fail
    go_at_call 15
    refine (CD3.out _ HB.out).mono ?_
    rintro e w15 ⟨a2, b2, d2, e2, rfl, hb⟩
    clear qP0 fP0 qP1 fP1 zP qQ0 fQ0 qQ1 fQ1 zQ
    have HP := Lib.hid (HP.out.below hb)
    have HQ := Lib.hid (HQ.out.below hb)
    have HV1 := Lib.hid (HV1.out.below hb)
    have HV3 := Lib.hid (HV3.out.below hb)
    have HB := Lib.hid (below_after hb HB.out)
    clear hb
    clear HP HQ
    have I6 := Lib.hid (fun w => impl_IsConvergent_any a2 b2 d2 e2 w)
    have S6 := Lib.hid (fun w => spec_IsConvergent_any a2 b2 d2 e2 w)
    generalize icV a2 b2 d2 e2 = bv at *
    generalize icC a2 b2 d2 e2 = c6 at *
    go_wp2_with fail
    go_at_call 16
    refine (I6.out _).mono ?_
    rintro e w16 ⟨rfl, hb⟩
    have HV1 := Lib.hid (HV1.out.below hb)
    have HV3 := Lib.hid (HV3.out.below hb)
    have HB := Lib.hid (below_after hb HB.out)
    clear hb
    go_wp2_with fail
    go_at_call 17
    refine (S6.out _).mono ?_
    rintro e w17 ⟨rfl, hb⟩
    have HV1 := Lib.hid (HV1.out.below hb)
    have HV3 := Lib.hid (HV3.out.below hb)
    have HB := Lib.hid (below_after hb HB.out)
    clear hb
    clear I6 S6
    go_wp2_with fail
    go_at_call 18
    refine (CD4.out _ HB.out).mono ?_
    rintro e w18 ⟨e1, f1, g1, h1, rfl, hb⟩
    have HV1 := Lib.hid (HV1.out.below hb)
    have HV3 := Lib.hid (HV3.out.below hb)
    have HB := Lib.hid (below_after hb HB.out)
    clear hb
    have I7 := Lib.hid (fun w => impl_CompareRatios_any e1 f1 g1 h1 w)
    have S7 := Lib.hid (fun w => spec_CompareRatios_any e1 f1 g1 h1 w)
    obtain ⟨sv, Esv⟩ : ∃ x, cqV e1 f1 g1 h1 = x := ⟨_, rfl⟩
    obtain ⟨c7, Ec7⟩ : ∃ x, cqC e1 f1 g1 h1 = x := ⟨_, rfl⟩
    have hsvb : -1 ≤ sv ∧ sv ≤ 1 := by rw [← Esv]; unfold cqV cmI; repeat' split
                                       all_goals omega
    rw [Esv, Ec7] at I7 S7
    have HEsv := Lib.hid Esv
    have HEc7 := Lib.hid Ec7
    clear Esv Ec7
    go_wp2_with fail
    go_at_call 19
    refine (I7.out _).mono ?_
    rintro e w19 ⟨rfl, hb⟩
    have HV1 := Lib.hid (HV1.out.below hb)
    have HV3 := Lib.hid (HV3.out.below hb)
    have HB := Lib.hid (below_after hb HB.out)
    clear hb
    go_wp2_with fail
    go_at_call 20
    refine (S7.out _).mono ?_
    rintro e w20 ⟨rfl, hb⟩
    have HV1 := Lib.hid (HV1.out.below hb)
    have HV3 := Lib.hid (HV3.out.below hb)
    have HB := Lib.hid (below_after hb HB.out)
    clear hb
    clear I7 S7
    go_upto_if 199 with fail
    go_cut [] from 400 (fun wx => Below w.heap.size w wx ∧ OwnF w2.heap.size wx (.slice va1 N1 vc1) N1 z1 ∧ OwnF w6.heap.size wx (.slice va3 N3 vc3) N3 z3)
    case first =>
      by_cases hc7 : c7 = 0
      · skip
        subst hc7
        obtain ⟨q1', q2'⟩ := cq_back HEc7.out
        rw [HEsv.out] at q2'
        have I8 := Lib.hid (fun w => impl_CompareRatios_any g1 h1 e1 f1 w)
        rw [q1', q2'] at I8
        have hw1 : IntKind.i64.wrap (-sv) = -sv := by rw [IntKind.wrap_i64]; omega
        have hw2 : wrap64 (-sv) = -sv := IntWalk.wrap64_in _ ⟨by omega, by omega⟩
        clear q1' q2' 
        go_wp2_with fail
        go_at_call 19
        refine (I8.out _).mono ?_
        rintro e w21 ⟨rfl, hb⟩
        have HV1 := Lib.hid (HV1.out.below hb)
        have HV3 := Lib.hid (HV3.out.below hb)
        have HB := Lib.hid (below_after hb HB.out)
        clear hb
        go_wp2_with fail
        go_meet
        exact ⟨HB.out, HV1.out, HV3.out⟩
      · skip
        have hne : (c7 == 0) = false := by simp [hc7]
        go_wp2_with fail
        go_meet
        exact ⟨HB.out, HV1.out, HV3.out⟩
    case rest =>
      obtain ⟨hc0, hcV1, hcV3⟩ := hcut
      have HB := Lib.hid hc0
      have HV1 := Lib.hid hcV1
      have HV3 := Lib.hid hcV3
      clear hc0 hcV1 hcV3
      go_upto_if 217 with fail
      go_cut [] from 400 (fun wx => Below w.heap.size w wx ∧ OwnF w2.heap.size wx (.slice va1 N1 vc1) N1 z1)
      case first =>
        by_cases hc3 : c3 = 0
        · skip
          subst hc3
          obtain ⟨q1', q2', q3'⟩ := nf_flat HEC3.out
          rw [HEN3.out] at q1' q2' q3'
          rw [HEZ3.out] at q2' q3'
          have I9 := Lib.hid (fun w => impl_NearestFraction_any r1 s1 m1 w)
          rw [HEC3.out] at I9
          obtain ⟨x9, hx9⟩ : ∃ x, nfX r1 s1 m1 = x := ⟨_, rfl⟩
          obtain ⟨y9, hy9⟩ : ∃ x, nfY r1 s1 m1 = x := ⟨_, rfl⟩
          rw [hx9, hy9] at I9
          rw [hx9] at q2'
          rw [hy9] at q3'
          have HQ2 := Lib.hid q2'
          have HQ3 := Lib.hid q3'
          obtain ⟨M, hM⟩ : ∃ M, N3 = M + 1 := ⟨N3 - 1, by omega⟩
          have HM3 := Lib.hid hM
          clear hx9 hy9 q1' q2' q3' hM
          go_wp2_with fail
          go_at_call 13
          refine (I9.out _).mono ?_
          rintro e w121 ⟨rfl, hb⟩
          have HV1 := Lib.hid (HV1.out.below hb)
          have HV3 := Lib.hid (HV3.out.below hb)
          have HB := Lib.hid (below_after hb HB.out)
          clear hb
          go_upto_region 34 with fail
          obtain ⟨GQ, hGQ⟩ : ∃ g, w121.heap.size = g := ⟨_, rfl⟩
          obtain ⟨w122, hw122⟩ : ∃ wx, wx = w121.alloc (.cells #[.int .i64 x9, .int .i64 y9] 31) := ⟨_, rfl⟩
          rw [← hw122, hGQ]
          have HQ : Hid (Bk2 w122 GQ x9 y9) := by rw [hw122, ← hGQ]; exact bk2_new w121 x9 y9 _
          have le_Q : w.heap.size ≤ GQ := by rw [← hGQ]; exact HB.out.size
          have HV1 := Lib.hid (HV1.out.below ((Below.refl _ _).alloc (Nat.le_refl _) (.cells #[.int .i64 x9, .int .i64 y9] 31)))
          have HV3 := Lib.hid (HV3.out.below ((Below.refl _ _).alloc (Nat.le_refl _) (.cells #[.int .i64 x9, .int .i64 y9] 31)))
          have HB := Lib.hid (Below.alloc HB.out HB.out.size (.cells #[.int .i64 x9, .int .i64 y9] 31))
          rw [← hw122] at HV1 HV3 HB
          clear hw122 hGQ
          have hM := HM3.out
          obtain ⟨va2, vc2, he2, hf2⟩ := own_viewF HV3.out
          simp only [Value.slice.injEq] at he2
          obtain ⟨rfl, -, rfl⟩ := he2
          obtain ⟨gl, rfl, hgl1, hgl2, hcl, -⟩ := hf2 (by omega)
          have e0 := hcl ((N3 - 1) * 2) (by omega)
          have e1' := hcl ((N3 - 1) * 2 + 1) (by omega)
          rw [HQ2.out] at e0
          rw [HQ3.out] at e1'
          rw [show N3 - 1 = M by omega] at e0 e1'
          have HCL : Hid (∀ W, Below w122.heap.size w122 W → W.cell? ⟨gl, M * 2, none⟩ = some (.int .i64 x9) ∧ W.cell? ⟨gl, M * 2 + 1, none⟩ = some (.int .i64 y9)) := fun W hW => ⟨(hW.cell (p := ⟨gl, M * 2, none⟩) hgl2).trans e0, (hW.cell (p := ⟨gl, M * 2 + 1, none⟩) hgl2).trans e1'⟩
          have j0 : ((N3 : Int) == 0) = false := by simp; omega
          have j1 : (0 : Int) ≤ (M : Int) := by omega
          have j2 : (M : Int) < (N3 : Int) := by omega
          have j3 : (N3 : Int) - 1 = (M : Int) := by omega
          have j4 : IntKind.i64.wrap ((N3 : Int) - 1) = (M : Int) := by rw [IntKind.wrap_i64]; omega
          have j5 : wrap64 ((N3 : Int) - 1) = (M : Int) := by rw [IntWalk.wrap64_in _ ⟨by omega, by omega⟩]; exact j3
          have J4 := Lib.hid j4
          have J5 := Lib.hid j5
          have J0 := Lib.hid j0
          have J8 : Hid (IntKind.i64.wrap (M : Int) = (M : Int)) := by show IntKind.i64.wrap (M : Int) = (M : Int); rw [IntKind.wrap_i64]; omega
          have J6 : Hid (¬ N3 = 0) := by show ¬ N3 = 0; omega
          have J7 : Hid ((N3 == 0) = false) := by show (N3 == 0) = false; simp; omega
          have J1 := Lib.hid j1
          have J2 := Lib.hid j2
          have J3 := Lib.hid j3
          clear hf2 hcl e0 e1' hM j0 j1 j2 j3 j4 j5
          have HXX : Hid (∀ W, Below w122.heap.size w122 W → Bk2 W GQ x9 y9) := fun W hW => HQ.out.below hW
          go_wp2_with fail
          refine wp_region_held_drew (S := fun W => Below w122.heap.size w122 W) (by kernel_rfl) ?_ (fun hHeld => ?_); focus ((try dsimp only); exact (Below.refl _ _).drew)
          have HQ := Lib.hid (HQ.out.below (Below.drew (Below.refl _ _)))
          have HV1 := Lib.hid (HV1.out.below (Below.drew (Below.refl _ _)))
          have HV3 := Lib.hid (HV3.out.below (Below.drew (Below.refl _ _)))
          have hHeld : Below w122.heap.size w122 _ := hHeld
          obtain ⟨wD122, hwD122⟩ : ∃ wD, w122.drew = wD := ⟨_, rfl⟩
          rw [hwD122] at hHeld HQ HV1 HV3 ⊢
          clear hwD122
          (refine wpAnyH_take (i := 0) (v := ?_) rfl (by kernel_rfl) (by kernel_rfl) (by kernel_rfl) (fun _ _ _ h => h) (Or.inl ⟨rfl, ?_⟩) (by assumption) ?_; rotate_left; focus (intro W hSw; (try dsimp only at hSw); have hxx := HXX.out _ hSw; have hxQ := hxx; have j0 := J0.out; have j1 := J1.out; have j2 := J2.out; have j3 := J3.out; have j4 := J4.out; have j5 := J5.out; have j6 := J6.out; have j7 := J7.out; have j8 := J8.out; have hlx := HCL.out _ hSw; obtain ⟨l0, l1⟩ := hlx; obtain ⟨⟨iQ0, iQ1⟩, _, _⟩ := hxQ; go_simp; try (with_reducible rfl))); (try simp only [Act.put, List.getElem_toArray, List.getElem_cons_succ, List.getElem_cons_zero, List.setIfInBounds_toArray, List.set_cons_zero, List.set_cons_succ])
          (refine wpAnyH_take (i := 1) (v := ?_) rfl (by kernel_rfl) (by kernel_rfl) (by kernel_rfl) (fun _ _ _ h => h) (Or.inl ⟨rfl, ?_⟩) (by assumption) ?_; rotate_left; focus (intro W hSw; (try dsimp only at hSw); have hxx := HXX.out _ hSw; have hxQ := hxx; have j0 := J0.out; have j1 := J1.out; have j2 := J2.out; have j3 := J3.out; have j4 := J4.out; have j5 := J5.out; have j6 := J6.out; have j7 := J7.out; have j8 := J8.out; have hlx := HCL.out _ hSw; obtain ⟨l0, l1⟩ := hlx; obtain ⟨⟨iQ0, iQ1⟩, _, _⟩ := hxQ; go_simp; try (with_reducible rfl))); (try simp only [Act.put, List.getElem_toArray, List.getElem_cons_succ, List.getElem_cons_zero, List.setIfInBounds_toArray, List.set_cons_zero, List.set_cons_succ])
          (refine wpAnyH_take (i := 2) (v := ?_) rfl (by kernel_rfl) (by kernel_rfl) (by kernel_rfl) (fun _ _ _ h => h) (Or.inl ⟨rfl, ?_⟩) (by assumption) ?_; rotate_left; focus (intro W hSw; (try dsimp only at hSw); have hxx := HXX.out _ hSw; have hxQ := hxx; have j0 := J0.out; have j1 := J1.out; have j2 := J2.out; have j3 := J3.out; have j4 := J4.out; have j5 := J5.out; have j6 := J6.out; have j7 := J7.out; have j8 := J8.out; have hlx := HCL.out _ hSw; obtain ⟨l0, l1⟩ := hlx; obtain ⟨⟨iQ0, iQ1⟩, _, _⟩ := hxQ; go_simp; try (with_reducible rfl))); (try simp only [Act.put, List.getElem_toArray, List.getElem_cons_succ, List.getElem_cons_zero, List.setIfInBounds_toArray, List.set_cons_zero, List.set_cons_succ])
          (refine wpAnyH_take (i := 3) (v := ?_) rfl (by kernel_rfl) (by kernel_rfl) (by kernel_rfl) (fun _ _ _ h => h) (Or.inl ⟨rfl, ?_⟩) (by assumption) ?_; rotate_left; focus (intro W hSw; (try dsimp only at hSw); have hxx := HXX.out _ hSw; have hxQ := hxx; have j0 := J0.out; have j1 := J1.out; have j2 := J2.out; have j3 := J3.out; have j4 := J4.out; have j5 := J5.out; have j6 := J6.out; have j7 := J7.out; have j8 := J8.out; have hlx := HCL.out _ hSw; obtain ⟨l0, l1⟩ := hlx; obtain ⟨⟨iQ0, iQ1⟩, _, _⟩ := hxQ; go_simp; try (with_reducible rfl))); (try simp only [Act.put, List.getElem_toArray, List.getElem_cons_succ, List.getElem_cons_zero, List.setIfInBounds_toArray, List.set_cons_zero, List.set_cons_succ])
          (refine wpAnyH_take (i := 4) (v := ?_) rfl (by kernel_rfl) (by kernel_rfl) (by kernel_rfl) (fun _ _ _ h => h) (Or.inl ⟨rfl, ?_⟩) (by assumption) ?_; rotate_left; focus (intro W hSw; (try dsimp only at hSw); have hxx := HXX.out _ hSw; have hxQ := hxx; have j0 := J0.out; have j1 := J1.out; have j2 := J2.out; have j3 := J3.out; have j4 := J4.out; have j5 := J5.out; have j6 := J6.out; have j7 := J7.out; have j8 := J8.out; have hlx := HCL.out _ hSw; obtain ⟨l0, l1⟩ := hlx; obtain ⟨⟨iQ0, iQ1⟩, _, _⟩ := hxQ; go_simp; try (with_reducible rfl))); (try simp only [Act.put, List.getElem_toArray, List.getElem_cons_succ, List.getElem_cons_zero, List.setIfInBounds_toArray, List.set_cons_zero, List.set_cons_succ])
          (refine wpAnyH_take (i := 5) (v := ?_) rfl (by kernel_rfl) (by kernel_rfl) (by kernel_rfl) (fun _ _ _ h => h) (Or.inl ⟨rfl, ?_⟩) (by assumption) ?_; rotate_left; focus (intro W hSw; (try dsimp only at hSw); have hxx := HXX.out _ hSw; have hxQ := hxx; have j0 := J0.out; have j1 := J1.out; have j2 := J2.out; have j3 := J3.out; have j4 := J4.out; have j5 := J5.out; have j6 := J6.out; have j7 := J7.out; have j8 := J8.out; have hlx := HCL.out _ hSw; obtain ⟨l0, l1⟩ := hlx; obtain ⟨⟨iQ0, iQ1⟩, _, _⟩ := hxQ; go_simp; try (with_reducible rfl))); (try simp only [Act.put, List.getElem_toArray, List.getElem_cons_succ, List.getElem_cons_zero, List.setIfInBounds_toArray, List.set_cons_zero, List.set_cons_succ])
          (refine wpAnyH_take (i := 6) (v := ?_) rfl (by kernel_rfl) (by kernel_rfl) (by kernel_rfl) (fun _ _ _ h => h) (Or.inl ⟨rfl, ?_⟩) (by assumption) ?_; rotate_left; focus (intro W hSw; (try dsimp only at hSw); have hxx := HXX.out _ hSw; have hxQ := hxx; have j0 := J0.out; have j1 := J1.out; have j2 := J2.out; have j3 := J3.out; have j4 := J4.out; have j5 := J5.out; have j6 := J6.out; have j7 := J7.out; have j8 := J8.out; have hlx := HCL.out _ hSw; obtain ⟨l0, l1⟩ := hlx; obtain ⟨⟨iQ0, iQ1⟩, _, _⟩ := hxQ; go_simp; try (with_reducible rfl))); (try simp only [Act.put, List.getElem_toArray, List.getElem_cons_succ, List.getElem_cons_zero, List.setIfInBounds_toArray, List.set_cons_zero, List.set_cons_succ])
          (refine wpAnyH_take (i := 7) (v := ?_) rfl (by kernel_rfl) (by kernel_rfl) (by kernel_rfl) (fun _ _ _ h => h) (Or.inl ⟨rfl, ?_⟩) (by assumption) ?_; rotate_left; focus (intro W hSw; (try dsimp only at hSw); have hxx := HXX.out _ hSw; have hxQ := hxx; have j0 := J0.out; have j1 := J1.out; have j2 := J2.out; have j3 := J3.out; have j4 := J4.out; have j5 := J5.out; have j6 := J6.out; have j7 := J7.out; have j8 := J8.out; have hlx := HCL.out _ hSw; obtain ⟨l0, l1⟩ := hlx; obtain ⟨⟨iQ0, iQ1⟩, _, _⟩ := hxQ; go_simp; try (with_reducible rfl))); (try simp only [Act.put, List.getElem_toArray, List.getElem_cons_succ, List.getElem_cons_zero, List.setIfInBounds_toArray, List.set_cons_zero, List.set_cons_succ])
          (refine wpAnyH_take (i := 8) (v := ?_) rfl (by kernel_rfl) (by kernel_rfl) (by kernel_rfl) (fun _ _ _ h => h) (Or.inl ⟨rfl, ?_⟩) (by assumption) ?_; rotate_left; focus (intro W hSw; (try dsimp only at hSw); have hxx := HXX.out _ hSw; have hxQ := hxx; have j0 := J0.out; have j1 := J1.out; have j2 := J2.out; have j3 := J3.out; have j4 := J4.out; have j5 := J5.out; have j6 := J6.out; have j7 := J7.out; have j8 := J8.out; have hlx := HCL.out _ hSw; obtain ⟨l0, l1⟩ := hlx; obtain ⟨⟨iQ0, iQ1⟩, _, _⟩ := hxQ; go_simp; try (with_reducible rfl))); (try simp only [Act.put, List.getElem_toArray, List.getElem_cons_succ, List.getElem_cons_zero, List.setIfInBounds_toArray, List.set_cons_zero, List.set_cons_succ])
          (refine wpAnyH_take (i := 9) (v := ?_) rfl (by kernel_rfl) (by kernel_rfl) (by kernel_rfl) (fun _ _ _ h => h) (Or.inl ⟨rfl, ?_⟩) (by assumption) ?_; rotate_left; focus (intro W hSw; (try dsimp only at hSw); have hxx := HXX.out _ hSw; have hxQ := hxx; have j0 := J0.out; have j1 := J1.out; have j2 := J2.out; have j3 := J3.out; have j4 := J4.out; have j5 := J5.out; have j6 := J6.out; have j7 := J7.out; have j8 := J8.out; have hlx := HCL.out _ hSw; obtain ⟨l0, l1⟩ := hlx; obtain ⟨⟨iQ0, iQ1⟩, _, _⟩ := hxQ; go_simp; try (with_reducible rfl))); (try simp only [Act.put, List.getElem_toArray, List.getElem_cons_succ, List.getElem_cons_zero, List.setIfInBounds_toArray, List.set_cons_zero, List.set_cons_succ])
          (refine wpAnyH_take (i := 10) (v := ?_) rfl (by kernel_rfl) (by kernel_rfl) (by kernel_rfl) (fun _ _ _ h => h) (Or.inl ⟨rfl, ?_⟩) (by assumption) ?_; rotate_left; focus (intro W hSw; (try dsimp only at hSw); have hxx := HXX.out _ hSw; have hxQ := hxx; have j0 := J0.out; have j1 := J1.out; have j2 := J2.out; have j3 := J3.out; have j4 := J4.out; have j5 := J5.out; have j6 := J6.out; have j7 := J7.out; have j8 := J8.out; have hlx := HCL.out _ hSw; obtain ⟨l0, l1⟩ := hlx; obtain ⟨⟨iQ0, iQ1⟩, _, _⟩ := hxQ; go_simp; try (with_reducible rfl))); (try simp only [Act.put, List.getElem_toArray, List.getElem_cons_succ, List.getElem_cons_zero, List.setIfInBounds_toArray, List.set_cons_zero, List.set_cons_succ])
          (refine wpAnyH_take (i := 11) (v := ?_) rfl (by kernel_rfl) (by kernel_rfl) (by kernel_rfl) (fun _ _ _ h => h) (Or.inl ⟨rfl, ?_⟩) (by assumption) ?_; rotate_left; focus (intro W hSw; (try dsimp only at hSw); have hxx := HXX.out _ hSw; have hxQ := hxx; have j0 := J0.out; have j1 := J1.out; have j2 := J2.out; have j3 := J3.out; have j4 := J4.out; have j5 := J5.out; have j6 := J6.out; have j7 := J7.out; have j8 := J8.out; have hlx := HCL.out _ hSw; obtain ⟨l0, l1⟩ := hlx; obtain ⟨⟨iQ0, iQ1⟩, _, _⟩ := hxQ; go_simp; try (with_reducible rfl))); (try simp only [Act.put, List.getElem_toArray, List.getElem_cons_succ, List.getElem_cons_zero, List.setIfInBounds_toArray, List.set_cons_zero, List.set_cons_succ])
          (refine wpAnyH_take (i := 12) (v := ?_) rfl (by kernel_rfl) (by kernel_rfl) (by kernel_rfl) (fun _ _ _ h => h) (Or.inl ⟨rfl, ?_⟩) (by assumption) ?_; rotate_left; focus (intro W hSw; (try dsimp only at hSw); have hxx := HXX.out _ hSw; have hxQ := hxx; have j0 := J0.out; have j1 := J1.out; have j2 := J2.out; have j3 := J3.out; have j4 := J4.out; have j5 := J5.out; have j6 := J6.out; have j7 := J7.out; have j8 := J8.out; have hlx := HCL.out _ hSw; obtain ⟨l0, l1⟩ := hlx; obtain ⟨⟨iQ0, iQ1⟩, _, _⟩ := hxQ; go_simp; try (with_reducible rfl))); (try simp only [Act.put, List.getElem_toArray, List.getElem_cons_succ, List.getElem_cons_zero, List.setIfInBounds_toArray, List.set_cons_zero, List.set_cons_succ])
          (refine wpAnyH_take (i := 13) (v := ?_) rfl (by kernel_rfl) (by kernel_rfl) (by kernel_rfl) (fun _ _ _ h => h) (Or.inl ⟨rfl, ?_⟩) (by assumption) ?_; rotate_left; focus (intro W hSw; (try dsimp only at hSw); have hxx := HXX.out _ hSw; have hxQ := hxx; have j0 := J0.out; have j1 := J1.out; have j2 := J2.out; have j3 := J3.out; have j4 := J4.out; have j5 := J5.out; have j6 := J6.out; have j7 := J7.out; have j8 := J8.out; have hlx := HCL.out _ hSw; obtain ⟨l0, l1⟩ := hlx; obtain ⟨⟨iQ0, iQ1⟩, _, _⟩ := hxQ; go_simp; try (with_reducible rfl))); (try simp only [Act.put, List.getElem_toArray, List.getElem_cons_succ, List.getElem_cons_zero, List.setIfInBounds_toArray, List.set_cons_zero, List.set_cons_succ])
          (refine wpAnyH_take (i := 14) (v := ?_) rfl (by kernel_rfl) (by kernel_rfl) (by kernel_rfl) (fun _ _ _ h => h) (Or.inl ⟨rfl, ?_⟩) (by assumption) ?_; rotate_left; focus (intro W hSw; (try dsimp only at hSw); have hxx := HXX.out _ hSw; have hxQ := hxx; have j0 := J0.out; have j1 := J1.out; have j2 := J2.out; have j3 := J3.out; have j4 := J4.out; have j5 := J5.out; have j6 := J6.out; have j7 := J7.out; have j8 := J8.out; have hlx := HCL.out _ hSw; obtain ⟨l0, l1⟩ := hlx; obtain ⟨⟨iQ0, iQ1⟩, _, _⟩ := hxQ; go_simp; try (with_reducible rfl))); (try simp only [Act.put, List.getElem_toArray, List.getElem_cons_succ, List.getElem_cons_zero, List.setIfInBounds_toArray, List.set_cons_zero, List.set_cons_succ])
          (refine wpAnyH_take (i := 15) (v := ?_) rfl (by kernel_rfl) (by kernel_rfl) (by kernel_rfl) (fun _ _ _ h => h) (Or.inl ⟨rfl, ?_⟩) (by assumption) ?_; rotate_left; focus (intro W hSw; (try dsimp only at hSw); have hxx := HXX.out _ hSw; have hxQ := hxx; have j0 := J0.out; have j1 := J1.out; have j2 := J2.out; have j3 := J3.out; have j4 := J4.out; have j5 := J5.out; have j6 := J6.out; have j7 := J7.out; have j8 := J8.out; have hlx := HCL.out _ hSw; obtain ⟨l0, l1⟩ := hlx; obtain ⟨⟨iQ0, iQ1⟩, _, _⟩ := hxQ; go_simp; try (with_reducible rfl))); (try simp only [Act.put, List.getElem_toArray, List.getElem_cons_succ, List.getElem_cons_zero, List.setIfInBounds_toArray, List.set_cons_zero, List.set_cons_succ])
          (refine wpAnyH_take (i := 16) (v := ?_) rfl (by kernel_rfl) (by kernel_rfl) (by kernel_rfl) (fun _ _ _ h => h) (Or.inl ⟨rfl, ?_⟩) (by assumption) ?_; rotate_left; focus (intro W hSw; (try dsimp only at hSw); have hxx := HXX.out _ hSw; have hxQ := hxx; have j0 := J0.out; have j1 := J1.out; have j2 := J2.out; have j3 := J3.out; have j4 := J4.out; have j5 := J5.out; have j6 := J6.out; have j7 := J7.out; have j8 := J8.out; have hlx := HCL.out _ hSw; obtain ⟨l0, l1⟩ := hlx; obtain ⟨⟨iQ0, iQ1⟩, _, _⟩ := hxQ; go_simp; try (with_reducible rfl))); (try simp only [Act.put, List.getElem_toArray, List.getElem_cons_succ, List.getElem_cons_zero, List.setIfInBounds_toArray, List.set_cons_zero, List.set_cons_succ])
          refine wpAnyH_done (by kernel_rfl) ?_ _
          have HB := Lib.hid (HB.out.trans (hHeld.mono HB.out.size))
          clear hHeld HXX
          clear HCL
          obtain ⟨⟨qQ0, qQ1⟩, ⟨fQ0, fQ1⟩, zQ⟩ := HQ.out
          go_wp2_with fail
          go_meet
          exact ⟨HB.out, HV1.out⟩
        · skip
          have hne : (c3 == 0) = false := by simp [hc3]
          go_wp2_with fail
          go_meet
          exact ⟨HB.out, HV1.out⟩
      case rest =>
        obtain ⟨hc0, hcV1⟩ := hcut
        have HB := Lib.hid hc0
        have HV1 := Lib.hid hcV1
        clear hc0 hcV1
        clear HV3
        by_cases hc1 : c1 = 0
        · skip
          subst hc1
          obtain ⟨X, K1, K2, f, t1, t2, t3, t4, t5⟩ := bs_two HEC1.out
          rw [HEN1.out, HEZ1.out] at t1
          rw [HEN1.out] at t3 t4 t5
          have I4 := Lib.hid (fun w => impl_BestOfFirst_any p1 q1 k1 w)
          have hl4 := bs_len false p1 q1 k1
          unfold RetPC at I4
          obtain ⟨N4, EN4⟩ : ∃ x, (bsL false p1 q1 k1).length = x := ⟨_, rfl⟩
          obtain ⟨z4, EZ4⟩ : ∃ x, flat (bsL false p1 q1 k1) = x := ⟨_, rfl⟩
          rw [EN4, EZ4, HEC1.out] at I4
          rw [EN4] at hl4 t2 t3
          rw [EZ4] at t2
          have T1 := Lib.hid t1
          have T2 := Lib.hid t2
          have T3 := Lib.hid t3
          have T4 := Lib.hid t4
          have T5 := Lib.hid t5
          clear EN4 EZ4 t1 t2 t3 t4 t5
          go_wp2_with fail
          go_at_call 10
          refine (I4.out _).mono ?_
          rintro e w221 ⟨v4, rfl, ho, hb⟩
          have HV1 := Lib.hid (HV1.out.below hb)
          have HB := Lib.hid (below_after hb HB.out)
          clear hb
          obtain ⟨va4, vc4, rfl, -⟩ := own_viewF ho
          have HV4 := Lib.hid ho
          clear ho I4
          have HC1 : Hid (0 < N1 → ∃ g, va1 = some ⟨g, 0, none⟩ ∧ g < w221.heap.size ∧ ∀ j, j < N1 * 2 → w221.cell? ⟨g, j, none⟩ = some (.int .i64 (z1.getD j 0))) := by
            intro hp
            obtain ⟨va2, vc2, he2, hf2⟩ := own_viewF HV1.out
            simp only [Value.slice.injEq] at he2
            obtain ⟨rfl, -, rfl⟩ := he2
            obtain ⟨g, e, _, hg, hc, _⟩ := hf2 hp
            exact ⟨g, e, hg, hc⟩
          have HC4 : Hid (0 < N4 → ∃ g, va4 = some ⟨g, 0, none⟩ ∧ g < w221.heap.size ∧ ∀ j, j < N4 * 2 → w221.cell? ⟨g, j, none⟩ = some (.int .i64 (z4.getD j 0))) := by
            intro hp
            obtain ⟨va2, vc2, he2, hf2⟩ := own_viewF HV4.out
            simp only [Value.slice.injEq] at he2
            obtain ⟨rfl, -, rfl⟩ := he2
            obtain ⟨g, e, _, hg, hc, _⟩ := hf2 hp
            exact ⟨g, e, hg, hc⟩
          clear HV1 HV4
          have HZ : Hid (Below w221.heap.size w221 w221) := Below.refl _ _
          go_wp2_with fail
          go_loopw [46, 47] (fun av iv wr => ∃ (at_ i : Nat), av = .int .i64 at_ ∧ iv = .int .i64 i ∧ i ≤ N1 ∧ (i < N1 → at_ ≤ f i) ∧ Below w221.heap.size w221 wr) (fun _ iv _ => N1 - (intOf iv).toNat)
          case atStart => exact ⟨0, 0, rfl, rfl, by omega, fun _ => Nat.zero_le _, HZ.out⟩
          case round =>
            obtain ⟨at_, i, rfl, rfl, hi, hat, hbel⟩ := hrel
            have HW := Lib.hid hbel
            clear hbel
            obtain ⟨wo, rfl⟩ : ∃ wo, wo = wr := ⟨_, rfl⟩
            by_cases hlt : i < N1
            · obtain ⟨hfi, hke⟩ := T3.out i hlt
              have hat := hat hlt
              obtain ⟨ga, rfl, hga, hca⟩ := HC1.out (by omega)
              obtain ⟨gb, rfl, hgb, hcb⟩ := HC4.out (by omega)
              have a0 := hca (i * 2) (by omega)
              have a1 := hca (i * 2 + 1) (by omega)
              have HCB := Lib.hid hcb
              obtain ⟨x1, x2⟩ := T1.out i hlt
              rw [x1] at a0
              rw [x2] at a1
              have A0 := Lib.hid a0
              have A1 := Lib.hid a1
              have H5 := Lib.hid (fun j (hj : j < f i) => T5.out i j hlt hj)
              have HKE := Lib.hid hke
              clear x1 x2 a0 a1 hca hcb hke
              obtain ⟨k2, hk2⟩ : ∃ k, K2 i = k := ⟨_, rfl⟩
              rw [hk2] at A0 A1 H5 HKE
              have HK2 := Lib.hid hk2
              clear hk2
              obtain ⟨fi, hfie⟩ : ∃ x, f i = x := ⟨_, rfl⟩
              rw [hfie] at hat hfi H5 HKE
              have HFI := Lib.hid hfie
              clear hfie
              have i0 : (0 : Int) ≤ (i : Int) := by omega
              have i1 : (i : Int) < (N1 : Int) := by omega
              have hbo := HW.out
              go_wp2_with fail
              go_loopw [46] (fun av wi => ∃ m : Nat, av = .int .i64 m ∧ m ≤ fi ∧ Below w221.heap.size w221 wi) (fun av _ => fi - (intOf av).toNat)
              case atStart => exact ⟨at_, rfl, hat, HW.out⟩
              case round =>
                obtain ⟨m, rfl, hm, hbi⟩ := hrel
                have HWI := Lib.hid hbi
                have HCX : Hid (∀ W, Below wr.heap.size wr W → (W.cell? ⟨ga, i * 2, none⟩ = some (.int .i64 (X k2)) ∧ W.cell? ⟨ga, i * 2 + 1, none⟩ = some (.int .i64 k2)) ∧ (W.cell? ⟨gb, m * 2, none⟩ = some (.int .i64 (X (K1 m))) ∧ W.cell? ⟨gb, m * 2 + 1, none⟩ = some (.int .i64 (K1 m)))) := by
                  intro W hW
                  have hbW := below_after hW hbi
                  have b0 := (hbW.cell (p := ⟨ga, i * 2, none⟩) hga).trans A0.out
                  have b1 := (hbW.cell (p := ⟨ga, i * 2 + 1, none⟩) hga).trans A1.out
                  have d0 := (hbW.cell (p := ⟨gb, m * 2, none⟩) hgb).trans (HCB.out (m * 2) (by omega))
                  have d1 := (hbW.cell (p := ⟨gb, m * 2 + 1, none⟩) hgb).trans (HCB.out (m * 2 + 1) (by omega))
                  obtain ⟨y1, y2⟩ := T2.out m (by omega)
                  rw [y1] at d0
                  rw [y2] at d1
                  exact ⟨⟨b0, b1⟩, d0, d1⟩
                have m0 : (0 : Int) ≤ (m : Int) := by omega
                have m1 : (m : Int) < (N4 : Int) := by omega
                have M0 := Lib.hid m0
                have M1 := Lib.hid m1
                have I0 := Lib.hid i0
                have I1 := Lib.hid i1
                have M2 : Hid (IntKind.i64.wrap (m : Int) = (m : Int)) := by show IntKind.i64.wrap (m : Int) = (m : Int); rw [IntKind.wrap_i64]; omega
                have I2 : Hid (IntKind.i64.wrap (i : Int) = (i : Int)) := by show IntKind.i64.wrap (i : Int) = (i : Int); rw [IntKind.wrap_i64]; omega
                clear hbi
                obtain ⟨km, hkm⟩ : ∃ k, K1 m = k := ⟨_, rfl⟩
                rw [hkm] at HCX
                by_cases hmf : m = fi
                · have hkk : km = k2 := by rw [← hkm, hmf]; exact HKE.out
                  have HMF := Lib.hid hmf
                  clear hmf
                  subst hkk
                  have HE : Hid (∀ w, (Op.equalIn 10000 31 (.agg #[.int .i64 (X km), .int .i64 km]) (.agg #[.int .i64 (X km), .int .i64 km])).run Try.prog w = .ok true w) := fun w => by rw [eq_pt]; simp
                  have hne : ((m : Int) == (N4 : Int)) = false := by simp; omega
                  have HNE := Lib.hid hne
                  clear hkm hne heq
                  have HBK := HB
                  have HB : Hid (Below w221.heap.size w221 wr) := HWI.out
                  have HXX : Hid True := trivial
                  go_wp2_with fail
                  refine wp_region_held_drew (S := fun W => Below wr.heap.size wr W) (by kernel_rfl) ?_ (fun hHeld => ?_); focus ((try dsimp only); exact (Below.refl _ _).drew)
                  have hHeld : Below wr.heap.size wr _ := hHeld
                  obtain ⟨wD300, hwD300⟩ : ∃ wD, wr.drew = wD := ⟨_, rfl⟩
                  rw [hwD300] at hHeld ⊢
                  clear hwD300
                  (refine wpAnyH_take (i := 0) (v := ?_) rfl (by kernel_rfl) (by kernel_rfl) (by kernel_rfl) (fun _ _ _ h => h) (Or.inl ⟨rfl, ?_⟩) (by assumption) ?_; rotate_left; focus (intro W hSw; (try dsimp only at hSw); have he := HE.out; have m0 := M0.out; have m1 := M1.out; have i0 := I0.out; have i1 := I1.out; have m2 := M2.out; have i2 := I2.out; have hcx := HCX.out _ hSw; obtain ⟨⟨l0, l1⟩, l2, l3⟩ := hcx; go_simp; try (with_reducible rfl))); (try simp only [Act.put, List.getElem_toArray, List.getElem_cons_succ, List.getElem_cons_zero, List.setIfInBounds_toArray, List.set_cons_zero, List.set_cons_succ])
                  (refine wpAnyH_take (i := 1) (v := ?_) rfl (by kernel_rfl) (by kernel_rfl) (by kernel_rfl) (fun _ _ _ h => h) (Or.inl ⟨rfl, ?_⟩) (by assumption) ?_; rotate_left; focus (intro W hSw; (try dsimp only at hSw); have he := HE.out; have m0 := M0.out; have m1 := M1.out; have i0 := I0.out; have i1 := I1.out; have m2 := M2.out; have i2 := I2.out; have hcx := HCX.out _ hSw; obtain ⟨⟨l0, l1⟩, l2, l3⟩ := hcx; go_simp; try (with_reducible rfl))); (try simp only [Act.put, List.getElem_toArray, List.getElem_cons_succ, List.getElem_cons_zero, List.setIfInBounds_toArray, List.set_cons_zero, List.set_cons_succ])
                  (refine wpAnyH_take (i := 2) (v := ?_) rfl (by kernel_rfl) (by kernel_rfl) (by kernel_rfl) (fun _ _ _ h => h) (Or.inl ⟨rfl, ?_⟩) (by assumption) ?_; rotate_left; focus (intro W hSw; (try dsimp only at hSw); have he := HE.out; have m0 := M0.out; have m1 := M1.out; have i0 := I0.out; have i1 := I1.out; have m2 := M2.out; have i2 := I2.out; have hcx := HCX.out _ hSw; obtain ⟨⟨l0, l1⟩, l2, l3⟩ := hcx; go_simp; try (with_reducible rfl))); (try simp only [Act.put, List.getElem_toArray, List.getElem_cons_succ, List.getElem_cons_zero, List.setIfInBounds_toArray, List.set_cons_zero, List.set_cons_succ])
                  (refine wpAnyH_take (i := 3) (v := ?_) rfl (by kernel_rfl) (by kernel_rfl) (by kernel_rfl) (fun _ _ _ h => h) (Or.inl ⟨rfl, ?_⟩) (by assumption) ?_; rotate_left; focus (intro W hSw; (try dsimp only at hSw); have he := HE.out; have m0 := M0.out; have m1 := M1.out; have i0 := I0.out; have i1 := I1.out; have m2 := M2.out; have i2 := I2.out; have hcx := HCX.out _ hSw; obtain ⟨⟨l0, l1⟩, l2, l3⟩ := hcx; go_simp; try (with_reducible rfl))); (try simp only [Act.put, List.getElem_toArray, List.getElem_cons_succ, List.getElem_cons_zero, List.setIfInBounds_toArray, List.set_cons_zero, List.set_cons_succ])
                  (refine wpAnyH_take (i := 4) (v := ?_) rfl (by kernel_rfl) (by kernel_rfl) (by kernel_rfl) (fun _ _ _ h => h) (Or.inl ⟨rfl, ?_⟩) (by assumption) ?_; rotate_left; focus (intro W hSw; (try dsimp only at hSw); have he := HE.out; have m0 := M0.out; have m1 := M1.out; have i0 := I0.out; have i1 := I1.out; have m2 := M2.out; have i2 := I2.out; have hcx := HCX.out _ hSw; obtain ⟨⟨l0, l1⟩, l2, l3⟩ := hcx; go_simp; try (with_reducible rfl))); (try simp only [Act.put, List.getElem_toArray, List.getElem_cons_succ, List.getElem_cons_zero, List.setIfInBounds_toArray, List.set_cons_zero, List.set_cons_succ])
                  (refine wpAnyH_take (i := 5) (v := ?_) rfl (by kernel_rfl) (by kernel_rfl) (by kernel_rfl) (fun _ _ _ h => h) (Or.inl ⟨rfl, ?_⟩) (by assumption) ?_; rotate_left; focus (intro W hSw; (try dsimp only at hSw); have he := HE.out; have m0 := M0.out; have m1 := M1.out; have i0 := I0.out; have i1 := I1.out; have m2 := M2.out; have i2 := I2.out; have hcx := HCX.out _ hSw; obtain ⟨⟨l0, l1⟩, l2, l3⟩ := hcx; go_simp; try (with_reducible rfl))); (try simp only [Act.put, List.getElem_toArray, List.getElem_cons_succ, List.getElem_cons_zero, List.setIfInBounds_toArray, List.set_cons_zero, List.set_cons_succ])
                  (refine wpAnyH_take (i := 6) (v := ?_) rfl (by kernel_rfl) (by kernel_rfl) (by kernel_rfl) (fun _ _ _ h => h) (Or.inl ⟨rfl, ?_⟩) (by assumption) ?_; rotate_left; focus (intro W hSw; (try dsimp only at hSw); have he := HE.out; have m0 := M0.out; have m1 := M1.out; have i0 := I0.out; have i1 := I1.out; have m2 := M2.out; have i2 := I2.out; have hcx := HCX.out _ hSw; obtain ⟨⟨l0, l1⟩, l2, l3⟩ := hcx; go_simp; try (with_reducible rfl))); (try simp only [Act.put, List.getElem_toArray, List.getElem_cons_succ, List.getElem_cons_zero, List.setIfInBounds_toArray, List.set_cons_zero, List.set_cons_succ])
                  (refine wpAnyH_take (i := 7) (v := ?_) rfl (by kernel_rfl) (by kernel_rfl) (by kernel_rfl) (fun _ _ _ h => h) (Or.inl ⟨rfl, ?_⟩) (by assumption) ?_; rotate_left; focus (intro W hSw; (try dsimp only at hSw); have he := HE.out; have m0 := M0.out; have m1 := M1.out; have i0 := I0.out; have i1 := I1.out; have m2 := M2.out; have i2 := I2.out; have hcx := HCX.out _ hSw; obtain ⟨⟨l0, l1⟩, l2, l3⟩ := hcx; go_simp; try (with_reducible rfl))); (try simp only [Act.put, List.getElem_toArray, List.getElem_cons_succ, List.getElem_cons_zero, List.setIfInBounds_toArray, List.set_cons_zero, List.set_cons_succ])
                  (refine wpAnyH_take (i := 8) (v := ?_) rfl (by kernel_rfl) (by kernel_rfl) (by kernel_rfl) (fun _ _ _ h => h) (Or.inl ⟨rfl, ?_⟩) (by assumption) ?_; rotate_left; focus (intro W hSw; (try dsimp only at hSw); have he := HE.out; have m0 := M0.out; have m1 := M1.out; have i0 := I0.out; have i1 := I1.out; have m2 := M2.out; have i2 := I2.out; have hcx := HCX.out _ hSw; obtain ⟨⟨l0, l1⟩, l2, l3⟩ := hcx; go_simp; try (with_reducible rfl))); (try simp only [Act.put, List.getElem_toArray, List.getElem_cons_succ, List.getElem_cons_zero, List.setIfInBounds_toArray, List.set_cons_zero, List.set_cons_succ])
                  (refine wpAnyH_take (i := 9) (v := ?_) rfl (by kernel_rfl) (by kernel_rfl) (by kernel_rfl) (fun _ _ _ h => h) (Or.inl ⟨rfl, ?_⟩) (by assumption) ?_; rotate_left; focus (intro W hSw; (try dsimp only at hSw); have he := HE.out; have m0 := M0.out; have m1 := M1.out; have i0 := I0.out; have i1 := I1.out; have m2 := M2.out; have i2 := I2.out; have hcx := HCX.out _ hSw; obtain ⟨⟨l0, l1⟩, l2, l3⟩ := hcx; go_simp; try (with_reducible rfl))); (try simp only [Act.put, List.getElem_toArray, List.getElem_cons_succ, List.getElem_cons_zero, List.setIfInBounds_toArray, List.set_cons_zero, List.set_cons_succ])
                  (refine wpAnyH_take (i := 10) (v := ?_) rfl (by kernel_rfl) (by kernel_rfl) (by kernel_rfl) (fun _ _ _ h => h) (Or.inl ⟨rfl, ?_⟩) (by assumption) ?_; rotate_left; focus (intro W hSw; (try dsimp only at hSw); have he := HE.out; have m0 := M0.out; have m1 := M1.out; have i0 := I0.out; have i1 := I1.out; have m2 := M2.out; have i2 := I2.out; have hcx := HCX.out _ hSw; obtain ⟨⟨l0, l1⟩, l2, l3⟩ := hcx; go_simp; try (with_reducible rfl))); (try simp only [Act.put, List.getElem_toArray, List.getElem_cons_succ, List.getElem_cons_zero, List.setIfInBounds_toArray, List.set_cons_zero, List.set_cons_succ])
                  (refine wpAnyH_take (i := 11) (v := ?_) rfl (by kernel_rfl) (by kernel_rfl) (by kernel_rfl) (fun _ _ _ h => h) (Or.inl ⟨rfl, ?_⟩) (by assumption) ?_; rotate_left; focus (intro W hSw; (try dsimp only at hSw); have he := HE.out; have m0 := M0.out; have m1 := M1.out; have i0 := I0.out; have i1 := I1.out; have m2 := M2.out; have i2 := I2.out; have hcx := HCX.out _ hSw; obtain ⟨⟨l0, l1⟩, l2, l3⟩ := hcx; go_simp; try (with_reducible rfl))); (try simp only [Act.put, List.getElem_toArray, List.getElem_cons_succ, List.getElem_cons_zero, List.setIfInBounds_toArray, List.set_cons_zero, List.set_cons_succ])
                  (refine wpAnyH_take (i := 12) (v := ?_) rfl (by kernel_rfl) (by kernel_rfl) (by kernel_rfl) (fun _ _ _ h => h) (Or.inl ⟨rfl, ?_⟩) (by assumption) ?_; rotate_left; focus (intro W hSw; (try dsimp only at hSw); have he := HE.out; have m0 := M0.out; have m1 := M1.out; have i0 := I0.out; have i1 := I1.out; have m2 := M2.out; have i2 := I2.out; have hcx := HCX.out _ hSw; obtain ⟨⟨l0, l1⟩, l2, l3⟩ := hcx; go_simp; try (with_reducible rfl))); (try simp only [Act.put, List.getElem_toArray, List.getElem_cons_succ, List.getElem_cons_zero, List.setIfInBounds_toArray, List.set_cons_zero, List.set_cons_succ])
                  (refine wpAnyH_take (i := 13) (v := ?_) rfl (by kernel_rfl) (by kernel_rfl) (by kernel_rfl) (fun _ _ _ h => h) (Or.inl ⟨rfl, ?_⟩) (by assumption) ?_; rotate_left; focus (intro W hSw; (try dsimp only at hSw); have he := HE.out; have m0 := M0.out; have m1 := M1.out; have i0 := I0.out; have i1 := I1.out; have m2 := M2.out; have i2 := I2.out; have hcx := HCX.out _ hSw; obtain ⟨⟨l0, l1⟩, l2, l3⟩ := hcx; go_simp; try (with_reducible rfl))); (try simp only [Act.put, List.getElem_toArray, List.getElem_cons_succ, List.getElem_cons_zero, List.setIfInBounds_toArray, List.set_cons_zero, List.set_cons_succ])
                  (refine wpAnyH_take (i := 14) (v := ?_) rfl (by kernel_rfl) (by kernel_rfl) (by kernel_rfl) (fun _ _ _ h => h) (Or.inl ⟨rfl, ?_⟩) (by assumption) ?_; rotate_left; focus (intro W hSw; (try dsimp only at hSw); have he := HE.out; have m0 := M0.out; have m1 := M1.out; have i0 := I0.out; have i1 := I1.out; have m2 := M2.out; have i2 := I2.out; have hcx := HCX.out _ hSw; obtain ⟨⟨l0, l1⟩, l2, l3⟩ := hcx; go_simp; try (with_reducible rfl))); (try simp only [Act.put, List.getElem_toArray, List.getElem_cons_succ, List.getElem_cons_zero, List.setIfInBounds_toArray, List.set_cons_zero, List.set_cons_succ])
                  refine wpAnyH_done (by kernel_rfl) ?_ _
                  have HB := Lib.hid (HB.out.trans (hHeld.mono HB.out.size))
                  clear hHeld HXX
                  have hne := HNE.out
                  have hbl := HB.out
                  clear HCX
                  go_wp2_with fail
                  go_roundw
                  case rel => exact ⟨m, i + 1, rfl, by go_num, by omega, fun h => by have := T4.out i h; rw [HFI.out] at this; have := HMF.out; omega, by (repeat' (first | (with_reducible exact Below.refl _ _) | (with_reducible refine Below.alloc ?_ ?_ _) | (with_reducible refine Below.setCell ?_ ?_ _) | (with_reducible refine Below.drew ?_) | (with_reducible refine below_drewN ?_ _) | (with_reducible assumption) | (with_reducible refine below_after (by with_reducible assumption) ?_) | go_size))⟩
                  case measure => have := HMF.out; simp [intOf]; omega
                · have hkk : km ≠ k2 := by rw [← hkm]; exact H5.out m (by omega)
                  have HMF := Lib.hid hmf
                  clear hmf
                  have HE : Hid (∀ w, (Op.equalIn 10000 31 (.agg #[.int .i64 (X km), .int .i64 km]) (.agg #[.int .i64 (X k2), .int .i64 k2])).run Try.prog w = .ok false w) := fun w => by rw [eq_pt]; simp [hkk]
                  clear hkm hkk heq
                  have HBK := HB
                  have HB : Hid (Below w221.heap.size w221 wr) := HWI.out
                  have HXX : Hid True := trivial
                  go_wp2_with fail
                  refine wp_region_held_drew (S := fun W => Below wr.heap.size wr W) (by kernel_rfl) ?_ (fun hHeld => ?_); focus ((try dsimp only); exact (Below.refl _ _).drew)
                  have hHeld : Below wr.heap.size wr _ := hHeld
                  obtain ⟨wD300, hwD300⟩ : ∃ wD, wr.drew = wD := ⟨_, rfl⟩
                  rw [hwD300] at hHeld ⊢
                  clear hwD300
                  (refine wpAnyH_take (i := 0) (v := ?_) rfl (by kernel_rfl) (by kernel_rfl) (by kernel_rfl) (fun _ _ _ h => h) (Or.inl ⟨rfl, ?_⟩) (by assumption) ?_; rotate_left; focus (intro W hSw; (try dsimp only at hSw); have he := HE.out; have m0 := M0.out; have m1 := M1.out; have i0 := I0.out; have i1 := I1.out; have m2 := M2.out; have i2 := I2.out; have hcx := HCX.out _ hSw; obtain ⟨⟨l0, l1⟩, l2, l3⟩ := hcx; go_simp; try (with_reducible rfl))); (try simp only [Act.put, List.getElem_toArray, List.getElem_cons_succ, List.getElem_cons_zero, List.setIfInBounds_toArray, List.set_cons_zero, List.set_cons_succ])
                  (refine wpAnyH_take (i := 1) (v := ?_) rfl (by kernel_rfl) (by kernel_rfl) (by kernel_rfl) (fun _ _ _ h => h) (Or.inl ⟨rfl, ?_⟩) (by assumption) ?_; rotate_left; focus (intro W hSw; (try dsimp only at hSw); have he := HE.out; have m0 := M0.out; have m1 := M1.out; have i0 := I0.out; have i1 := I1.out; have m2 := M2.out; have i2 := I2.out; have hcx := HCX.out _ hSw; obtain ⟨⟨l0, l1⟩, l2, l3⟩ := hcx; go_simp; try (with_reducible rfl))); (try simp only [Act.put, List.getElem_toArray, List.getElem_cons_succ, List.getElem_cons_zero, List.setIfInBounds_toArray, List.set_cons_zero, List.set_cons_succ])
                  (refine wpAnyH_take (i := 2) (v := ?_) rfl (by kernel_rfl) (by kernel_rfl) (by kernel_rfl) (fun _ _ _ h => h) (Or.inl ⟨rfl, ?_⟩) (by assumption) ?_; rotate_left; focus (intro W hSw; (try dsimp only at hSw); have he := HE.out; have m0 := M0.out; have m1 := M1.out; have i0 := I0.out; have i1 := I1.out; have m2 := M2.out; have i2 := I2.out; have hcx := HCX.out _ hSw; obtain ⟨⟨l0, l1⟩, l2, l3⟩ := hcx; go_simp; try (with_reducible rfl))); (try simp only [Act.put, List.getElem_toArray, List.getElem_cons_succ, List.getElem_cons_zero, List.setIfInBounds_toArray, List.set_cons_zero, List.set_cons_succ])
                  (refine wpAnyH_take (i := 3) (v := ?_) rfl (by kernel_rfl) (by kernel_rfl) (by kernel_rfl) (fun _ _ _ h => h) (Or.inl ⟨rfl, ?_⟩) (by assumption) ?_; rotate_left; focus (intro W hSw; (try dsimp only at hSw); have he := HE.out; have m0 := M0.out; have m1 := M1.out; have i0 := I0.out; have i1 := I1.out; have m2 := M2.out; have i2 := I2.out; have hcx := HCX.out _ hSw; obtain ⟨⟨l0, l1⟩, l2, l3⟩ := hcx; go_simp; try (with_reducible rfl))); (try simp only [Act.put, List.getElem_toArray, List.getElem_cons_succ, List.getElem_cons_zero, List.setIfInBounds_toArray, List.set_cons_zero, List.set_cons_succ])
                  (refine wpAnyH_take (i := 4) (v := ?_) rfl (by kernel_rfl) (by kernel_rfl) (by kernel_rfl) (fun _ _ _ h => h) (Or.inl ⟨rfl, ?_⟩) (by assumption) ?_; rotate_left; focus (intro W hSw; (try dsimp only at hSw); have he := HE.out; have m0 := M0.out; have m1 := M1.out; have i0 := I0.out; have i1 := I1.out; have m2 := M2.out; have i2 := I2.out; have hcx := HCX.out _ hSw; obtain ⟨⟨l0, l1⟩, l2, l3⟩ := hcx; go_simp; try (with_reducible rfl))); (try simp only [Act.put, List.getElem_toArray, List.getElem_cons_succ, List.getElem_cons_zero, List.setIfInBounds_toArray, List.set_cons_zero, List.set_cons_succ])
                  (refine wpAnyH_take (i := 5) (v := ?_) rfl (by kernel_rfl) (by kernel_rfl) (by kernel_rfl) (fun _ _ _ h => h) (Or.inl ⟨rfl, ?_⟩) (by assumption) ?_; rotate_left; focus (intro W hSw; (try dsimp only at hSw); have he := HE.out; have m0 := M0.out; have m1 := M1.out; have i0 := I0.out; have i1 := I1.out; have m2 := M2.out; have i2 := I2.out; have hcx := HCX.out _ hSw; obtain ⟨⟨l0, l1⟩, l2, l3⟩ := hcx; go_simp; try (with_reducible rfl))); (try simp only [Act.put, List.getElem_toArray, List.getElem_cons_succ, List.getElem_cons_zero, List.setIfInBounds_toArray, List.set_cons_zero, List.set_cons_succ])
                  (refine wpAnyH_take (i := 6) (v := ?_) rfl (by kernel_rfl) (by kernel_rfl) (by kernel_rfl) (fun _ _ _ h => h) (Or.inl ⟨rfl, ?_⟩) (by assumption) ?_; rotate_left; focus (intro W hSw; (try dsimp only at hSw); have he := HE.out; have m0 := M0.out; have m1 := M1.out; have i0 := I0.out; have i1 := I1.out; have m2 := M2.out; have i2 := I2.out; have hcx := HCX.out _ hSw; obtain ⟨⟨l0, l1⟩, l2, l3⟩ := hcx; go_simp; try (with_reducible rfl))); (try simp only [Act.put, List.getElem_toArray, List.getElem_cons_succ, List.getElem_cons_zero, List.setIfInBounds_toArray, List.set_cons_zero, List.set_cons_succ])
                  (refine wpAnyH_take (i := 7) (v := ?_) rfl (by kernel_rfl) (by kernel_rfl) (by kernel_rfl) (fun _ _ _ h => h) (Or.inl ⟨rfl, ?_⟩) (by assumption) ?_; rotate_left; focus (intro W hSw; (try dsimp only at hSw); have he := HE.out; have m0 := M0.out; have m1 := M1.out; have i0 := I0.out; have i1 := I1.out; have m2 := M2.out; have i2 := I2.out; have hcx := HCX.out _ hSw; obtain ⟨⟨l0, l1⟩, l2, l3⟩ := hcx; go_simp; try (with_reducible rfl))); (try simp only [Act.put, List.getElem_toArray, List.getElem_cons_succ, List.getElem_cons_zero, List.setIfInBounds_toArray, List.set_cons_zero, List.set_cons_succ])
                  (refine wpAnyH_take (i := 8) (v := ?_) rfl (by kernel_rfl) (by kernel_rfl) (by kernel_rfl) (fun _ _ _ h => h) (Or.inl ⟨rfl, ?_⟩) (by assumption) ?_; rotate_left; focus (intro W hSw; (try dsimp only at hSw); have he := HE.out; have m0 := M0.out; have m1 := M1.out; have i0 := I0.out; have i1 := I1.out; have m2 := M2.out; have i2 := I2.out; have hcx := HCX.out _ hSw; obtain ⟨⟨l0, l1⟩, l2, l3⟩ := hcx; go_simp; try (with_reducible rfl))); (try simp only [Act.put, List.getElem_toArray, List.getElem_cons_succ, List.getElem_cons_zero, List.setIfInBounds_toArray, List.set_cons_zero, List.set_cons_succ])
                  (refine wpAnyH_take (i := 9) (v := ?_) rfl (by kernel_rfl) (by kernel_rfl) (by kernel_rfl) (fun _ _ _ h => h) (Or.inl ⟨rfl, ?_⟩) (by assumption) ?_; rotate_left; focus (intro W hSw; (try dsimp only at hSw); have he := HE.out; have m0 := M0.out; have m1 := M1.out; have i0 := I0.out; have i1 := I1.out; have m2 := M2.out; have i2 := I2.out; have hcx := HCX.out _ hSw; obtain ⟨⟨l0, l1⟩, l2, l3⟩ := hcx; go_simp; try (with_reducible rfl))); (try simp only [Act.put, List.getElem_toArray, List.getElem_cons_succ, List.getElem_cons_zero, List.setIfInBounds_toArray, List.set_cons_zero, List.set_cons_succ])
                  (refine wpAnyH_take (i := 10) (v := ?_) rfl (by kernel_rfl) (by kernel_rfl) (by kernel_rfl) (fun _ _ _ h => h) (Or.inl ⟨rfl, ?_⟩) (by assumption) ?_; rotate_left; focus (intro W hSw; (try dsimp only at hSw); have he := HE.out; have m0 := M0.out; have m1 := M1.out; have i0 := I0.out; have i1 := I1.out; have m2 := M2.out; have i2 := I2.out; have hcx := HCX.out _ hSw; obtain ⟨⟨l0, l1⟩, l2, l3⟩ := hcx; go_simp; try (with_reducible rfl))); (try simp only [Act.put, List.getElem_toArray, List.getElem_cons_succ, List.getElem_cons_zero, List.setIfInBounds_toArray, List.set_cons_zero, List.set_cons_succ])
                  (refine wpAnyH_take (i := 11) (v := ?_) rfl (by kernel_rfl) (by kernel_rfl) (by kernel_rfl) (fun _ _ _ h => h) (Or.inl ⟨rfl, ?_⟩) (by assumption) ?_; rotate_left; focus (intro W hSw; (try dsimp only at hSw); have he := HE.out; have m0 := M0.out; have m1 := M1.out; have i0 := I0.out; have i1 := I1.out; have m2 := M2.out; have i2 := I2.out; have hcx := HCX.out _ hSw; obtain ⟨⟨l0, l1⟩, l2, l3⟩ := hcx; go_simp; try (with_reducible rfl))); (try simp only [Act.put, List.getElem_toArray, List.getElem_cons_succ, List.getElem_cons_zero, List.setIfInBounds_toArray, List.set_cons_zero, List.set_cons_succ])
                  (refine wpAnyH_take (i := 12) (v := ?_) rfl (by kernel_rfl) (by kernel_rfl) (by kernel_rfl) (fun _ _ _ h => h) (Or.inl ⟨rfl, ?_⟩) (by assumption) ?_; rotate_left; focus (intro W hSw; (try dsimp only at hSw); have he := HE.out; have m0 := M0.out; have m1 := M1.out; have i0 := I0.out; have i1 := I1.out; have m2 := M2.out; have i2 := I2.out; have hcx := HCX.out _ hSw; obtain ⟨⟨l0, l1⟩, l2, l3⟩ := hcx; go_simp; try (with_reducible rfl))); (try simp only [Act.put, List.getElem_toArray, List.getElem_cons_succ, List.getElem_cons_zero, List.setIfInBounds_toArray, List.set_cons_zero, List.set_cons_succ])
                  (refine wpAnyH_take (i := 13) (v := ?_) rfl (by kernel_rfl) (by kernel_rfl) (by kernel_rfl) (fun _ _ _ h => h) (Or.inl ⟨rfl, ?_⟩) (by assumption) ?_; rotate_left; focus (intro W hSw; (try dsimp only at hSw); have he := HE.out; have m0 := M0.out; have m1 := M1.out; have i0 := I0.out; have i1 := I1.out; have m2 := M2.out; have i2 := I2.out; have hcx := HCX.out _ hSw; obtain ⟨⟨l0, l1⟩, l2, l3⟩ := hcx; go_simp; try (with_reducible rfl))); (try simp only [Act.put, List.getElem_toArray, List.getElem_cons_succ, List.getElem_cons_zero, List.setIfInBounds_toArray, List.set_cons_zero, List.set_cons_succ])
                  (refine wpAnyH_take (i := 14) (v := ?_) rfl (by kernel_rfl) (by kernel_rfl) (by kernel_rfl) (fun _ _ _ h => h) (Or.inl ⟨rfl, ?_⟩) (by assumption) ?_; rotate_left; focus (intro W hSw; (try dsimp only at hSw); have he := HE.out; have m0 := M0.out; have m1 := M1.out; have i0 := I0.out; have i1 := I1.out; have m2 := M2.out; have i2 := I2.out; have hcx := HCX.out _ hSw; obtain ⟨⟨l0, l1⟩, l2, l3⟩ := hcx; go_simp; try (with_reducible rfl))); (try simp only [Act.put, List.getElem_toArray, List.getElem_cons_succ, List.getElem_cons_zero, List.setIfInBounds_toArray, List.set_cons_zero, List.set_cons_succ])
                  refine wpAnyH_done (by kernel_rfl) ?_ _
                  have HB := Lib.hid (HB.out.trans (hHeld.mono HB.out.size))
                  clear hHeld HXX
                  have hbl := HB.out
                  clear HCX
                  go_wp2_with fail
                  go_roundw
                  case rel => exact ⟨m + 1, by go_num, by have := HMF.out; omega, by (repeat' (first | (with_reducible exact Below.refl _ _) | (with_reducible refine Below.alloc ?_ ?_ _) | (with_reducible refine Below.setCell ?_ ?_ _) | (with_reducible refine Below.drew ?_) | (with_reducible refine below_drewN ?_ _) | (with_reducible assumption) | (with_reducible refine below_after (by with_reducible assumption) ?_) | go_size))⟩
                  case measure => have := HMF.out; simp [intOf]; omega
            · have hge : ¬ (i : Int) < (N1 : Int) := by omega
              have hbo := HW.out
              have HBE := Lib.hid (below_after hbo HB.out)
              clear hbo
              go_wp2
              go_ret
              exact ⟨rfl, HBE.out⟩
        · skip
          have hne : (c1 != 0) = true := by simp [hc1]
          have hN0 : N1 = 0 := by
            have := HEN1.out
            rw [bsL_err (by rw [HEC1.out]; exact hc1)] at this
            exact this.symm
          subst hN0
          go_wp2_with fail
          go_ret
          have hb := HB.out
          exact ⟨by first | rfl | simp, hb⟩
end Go.Proofs.Ytibmkmcdggokbaa
