/-
  The walk of laws.FnCornerLists: for all arguments it returns true and leaves memory as it was. No conditions (own work).
-/
import Derived.Test.YtoenlpkphekbnaaClZ
import Derived.Test.YtoenlpkphekbnaaEoc
import Derived.Test.YtoenlpkphekbnaaCoe2
import Derived.Test.YtoenlpkphekbnaaSum3
import Derived.Test.YtoenlpkphekbnaaSum5
import Derived.Test.YtoenlpkphekbnaaCor4
import Derived.Test.YtoenlpkphekbnaaCor5
import Derived.Deep.DeepCutAuto
import Derived.Deep.Cut
namespace Go.Proofs.Ytoenlpkphekbnaa
open Go.ChangeShapes Go.WideShapes Go.ChangeAt Go.RowKit
set_option linter.unusedVariables false
set_option maxRecDepth 100000
set_option linter.unusedSimpArgs false
set_option maxRecDepth 100000

set_option maxHeartbeats 16000000 in
theorem walkFnCornerLists (a : Option Addr) (n cap : Nat) (zs : List Int) (w : World) (hR : IsRow .u8 w a n cap zs) :
    Calls Try.prog 5 #[.slice a n cap] w fun e w' => e = .returned (.bool true) ∧ Below w.heap.size w w' := by
  have heq := eq_cr
  have hn := row_len hR
  have hby := byt_of_row hR
  have CB := Lib.hid (fun w => big_any a n cap w hn)
  by_cases hbig : (4096 : Int) < (n : Int)
  · clear hR hby
    have d1 : decide ((4096 : Int) < (n : Int)) = true := by simpa using hbig
    rw [d1] at CB
    go_enter Try.func5, Try.ntmps5
    go_wp2_with (first | (go_at_call 6; refine (CB.out _).mono ?_; rintro e wn ⟨rfl, hb⟩; first | (have h2 := after_call2 hb hcl hfr hlt (by ((repeat' (first | (with_reducible exact Below.refl _ _) | (with_reducible refine Below.alloc ?_ ?_ _) | (with_reducible refine Below.setCell ?_ ?_ _) | (with_reducible refine Below.drew ?_) | (with_reducible refine below_drewN ?_ _) | (with_reducible assumption) | (with_reducible refine below_after (by with_reducible assumption) ?_) | go_size)); done)); obtain ⟨hclx, hfrx, hltx, hsz⟩ := after_call hb; (try simp only [World.size_alloc, World.size_setCell, World.size_drew] at hclx hfrx hltx hsz); (try (have hszl := Nat.lt_of_succ_le hsz)); obtain ⟨hcl, hfr, hlt⟩ := h2) | (obtain ⟨hcl, hfr, hlt, hsz⟩ := after_call hb; (try simp only [World.size_alloc, World.size_setCell, World.size_drew] at hcl hfr hlt hsz))))
    go_ret
    exact ⟨rfl, by (repeat' (first | (with_reducible exact Below.refl _ _) | (with_reducible refine Below.alloc ?_ ?_ _) | (with_reducible refine Below.setCell ?_ ?_ _) | (with_reducible refine Below.drew ?_) | (with_reducible refine below_drewN ?_ _) | (with_reducible assumption) | (with_reducible refine below_after (by with_reducible assumption) ?_) | go_size))⟩
  · have d1 : decide ((4096 : Int) < (n : Int)) = false := by simpa using hbig
    rw [d1] at CB
    have CD0 := Lib.hid (fun W (hW : Below w.heap.size w W) => DrawExpansionOfCorner_any a n cap W hn (hby.over hW))
    have CD1 := Lib.hid (fun W (hW : Below w.heap.size w W) => DrawCornerOfExpansion_any a n cap W hn (hby.over hW))
    have CD2 := Lib.hid (fun W (hW : Below w.heap.size w W) => DrawCornerOfTangent_any a n cap W hn (hby.over hW))
    have CD3 := Lib.hid (fun W (hW : Below w.heap.size w W) => DrawSumOfCorners_any a n cap W hn (hby.over hW))
    have HB : Hid (Below w.heap.size w w) := Below.refl _ _
    clear hR hby d1 hbig
    go_enter Try.func5, Try.ntmps5
    go_wp2_with fail
    go_at_call 6
    refine (CB.out _).mono ?_
    rintro e w1 ⟨rfl, hb⟩
    have HB := Lib.hid (below_after hb HB.out)
    clear hb
    go_wp2_with fail
    go_at_call 56
    refine (CD0.out _ HB.out).mono ?_
    rintro e w2 ⟨x0, y0, x1, y1, rfl, hb⟩
    have HB := Lib.hid (below_after hb HB.out)
    clear hb
    go_upto_region 4 with fail
    obtain ⟨GA, hGA⟩ : ∃ g, w2.heap.size = g := ⟨_, rfl⟩
    obtain ⟨w3, hw3⟩ : ∃ wx, wx = w2.alloc (.cells #[.int .i64 x0, .int .i64 y0, .int .i64 x1, .int .i64 y1] 52) := ⟨_, rfl⟩
    rw [← hw3, hGA]
    have HA : Hid (Bk4 w3 GA x0 y0 x1 y1) := by rw [hw3, ← hGA]; exact bk4_new w2 x0 y0 x1 y1 _
    have le_A : w.heap.size ≤ GA := by rw [← hGA]; exact HB.out.size
    have HB := Lib.hid (Below.alloc HB.out HB.out.size (.cells #[.int .i64 x0, .int .i64 y0, .int .i64 x1, .int .i64 y1] 52))
    rw [← hw3] at HB
    clear hw3 hGA
    have I1 := Lib.hid (fun w => impl_ExpansionOfCorner_any x0 y0 x1 y1 w)
    have S1 := Lib.hid (fun w => spec_ExpansionOfCorner_any x0 y0 x1 y1 w)
    have I2 := Lib.hid (fun w => impl_NormalCorner_any x0 y0 x1 y1 w)
    have S2 := Lib.hid (fun w => spec_NormalCorner_any x0 y0 x1 y1 w)
    have hl1 := lnC_len x0 y0 x1 y1
    unfold RetIC at I1 S1
    obtain ⟨L, EL⟩ : ∃ x, lnC x0 y0 x1 y1 = x := ⟨_, rfl⟩
    rw [EL] at I1 S1 hl1
    have HEL := Lib.hid EL
    obtain ⟨N, EN⟩ : ∃ x, L.length = x := ⟨_, rfl⟩
    rw [EN] at hl1
    have HEN := Lib.hid EN
    clear EL EN
    obtain ⟨n0, En0⟩ : ∃ x, oni (crC x0 y0 x1 y1) 1 = x := ⟨_, rfl⟩
    obtain ⟨n2, En2⟩ : ∃ x, oni (crC x0 y0 x1 y1) (cosI x0 y0 x1 y1) = x := ⟨_, rfl⟩
    obtain ⟨n3, En3⟩ : ∃ x, oni (crC x0 y0 x1 y1) (sinI x0 y0 x1 y1) = x := ⟨_, rfl⟩
    rw [En0, En2, En3] at I2 S2
    have HEn0 := Lib.hid En0
    have HEn2 := Lib.hid En2
    have HEn3 := Lib.hid En3
    clear En0 En2 En3
    obtain ⟨c1, Ec1⟩ : ∃ x, crC x0 y0 x1 y1 = x := ⟨_, rfl⟩
    rw [Ec1] at I1 S1 I2 S2
    have HEc1 := Lib.hid Ec1
    clear Ec1
    obtain ⟨⟨qA0, qA1, qA2, qA3⟩, ⟨fA0, fA1, fA2, fA3⟩, zA⟩ := HA.out
    go_wp2_with fail
    go_at_call 57
    refine (I1.out _).mono ?_
    rintro e w4 ⟨v1, rfl, ho1, hb⟩
    clear qA0 fA0 qA1 fA1 qA2 fA2 qA3 fA3 zA
    have HA := Lib.hid (HA.out.below hb)
    have HB := Lib.hid (below_after hb HB.out)
    clear hb
    obtain ⟨va1, vc1, hv1, -⟩ := own_view ho1
    rw [HEN.out] at hv1
    subst hv1
    have HV1 := Lib.hid ho1
    clear ho1
    obtain ⟨⟨qA0, qA1, qA2, qA3⟩, ⟨fA0, fA1, fA2, fA3⟩, zA⟩ := HA.out
    go_wp2_with fail
    go_at_call 58
    refine (S1.out _).mono ?_
    rintro e w5 ⟨v2, rfl, ho2, hb⟩
    clear qA0 fA0 qA1 fA1 qA2 fA2 qA3 fA3 zA
    have HA := Lib.hid (HA.out.below hb)
    have HV1 := Lib.hid (HV1.out.below hb)
    have HB := Lib.hid (below_after hb HB.out)
    clear hb
    obtain ⟨va2, vc2, hv2, -⟩ := own_view ho2
    rw [HEN.out] at hv2
    subst hv2
    have HV2 := Lib.hid ho2
    clear ho2
    obtain ⟨⟨qA0, qA1, qA2, qA3⟩, ⟨fA0, fA1, fA2, fA3⟩, zA⟩ := HA.out
    go_wp2_with fail
    go_at_call 59
    refine (likeInts_same _ _ _ _ _ _ _ HV1.out HV2.out HEN.out (by omega)).mono ?_
    rintro e w6 ⟨rfl, hb⟩
    clear qA0 fA0 qA1 fA1 qA2 fA2 qA3 fA3 zA
    have HA := Lib.hid (HA.out.below hb)
    have HV1 := Lib.hid (HV1.out.below hb)
    have HV2 := Lib.hid (HV2.out.below hb)
    have HB := Lib.hid (below_after hb HB.out)
    clear hb
    clear HV2 I1 S1
    obtain ⟨⟨qA0, qA1, qA2, qA3⟩, ⟨fA0, fA1, fA2, fA3⟩, zA⟩ := HA.out
    go_wp2_with fail
    go_at_call 60
    refine (I2.out _).mono ?_
    rintro e w7 ⟨rfl, hb⟩
    clear qA0 fA0 qA1 fA1 qA2 fA2 qA3 fA3 zA
    have HA := Lib.hid (HA.out.below hb)
    have HV1 := Lib.hid (HV1.out.below hb)
    have HB := Lib.hid (below_after hb HB.out)
    clear hb
    obtain ⟨⟨qA0, qA1, qA2, qA3⟩, ⟨fA0, fA1, fA2, fA3⟩, zA⟩ := HA.out
    go_upto_region 9 with fail
    obtain ⟨GM, hGM⟩ : ∃ g, w7.heap.size = g := ⟨_, rfl⟩
    obtain ⟨w8, hw8⟩ : ∃ wx, wx = w7.alloc (.cells #[.int .i64 n0, .int .i64 0, .int .i64 n2, .int .i64 n3] 52) := ⟨_, rfl⟩
    rw [← hw8, hGM]
    have HM : Hid (Bk4 w8 GM n0 0 n2 n3) := by rw [hw8, ← hGM]; exact bk4_new w7 n0 0 n2 n3 _
    have le_M : w.heap.size ≤ GM := by rw [← hGM]; exact HB.out.size
    have ne_M_A : GM ≠ GA := by have := HA.out.2.2; omega
    have ne_A_M : GA ≠ GM := Ne.symm ne_M_A
    clear qA0 fA0 qA1 fA1 qA2 fA2 qA3 fA3 zA
    have HA := Lib.hid (HA.out.below ((Below.refl _ _).alloc (Nat.le_refl _) (.cells #[.int .i64 n0, .int .i64 0, .int .i64 n2, .int .i64 n3] 52)))
    have HV1 := Lib.hid (HV1.out.below ((Below.refl _ _).alloc (Nat.le_refl _) (.cells #[.int .i64 n0, .int .i64 0, .int .i64 n2, .int .i64 n3] 52)))
    have HB := Lib.hid (Below.alloc HB.out HB.out.size (.cells #[.int .i64 n0, .int .i64 0, .int .i64 n2, .int .i64 n3] 52))
    rw [← hw8] at HA HV1 HB
    clear hw8 hGM
    obtain ⟨⟨qA0, qA1, qA2, qA3⟩, ⟨fA0, fA1, fA2, fA3⟩, zA⟩ := HA.out
    obtain ⟨⟨qM0, qM1, qM2, qM3⟩, ⟨fM0, fM1, fM2, fM3⟩, zM⟩ := HM.out
    go_wp2_with fail
    go_at_call 61
    refine (S2.out _).mono ?_
    rintro e w9 ⟨rfl, hb⟩
    clear qA0 fA0 qA1 fA1 qA2 fA2 qA3 fA3 zA qM0 fM0 qM1 fM1 qM2 fM2 qM3 fM3 zM
    have HA := Lib.hid (HA.out.below hb)
    have HM := Lib.hid (HM.out.below hb)
    have HV1 := Lib.hid (HV1.out.below hb)
    have HB := Lib.hid (below_after hb HB.out)
    clear hb
    clear HA
    obtain ⟨⟨qM0, qM1, qM2, qM3⟩, ⟨fM0, fM1, fM2, fM3⟩, zM⟩ := HM.out
    go_upto_region 10 with fail
    obtain ⟨GD, hGD⟩ : ∃ g, w9.heap.size = g := ⟨_, rfl⟩
    obtain ⟨w10, hw10⟩ : ∃ wx, wx = w9.alloc (.cells #[.int .i64 n0, .int .i64 0, .int .i64 n2, .int .i64 n3] 52) := ⟨_, rfl⟩
    rw [← hw10, hGD]
    have HD : Hid (Bk4 w10 GD n0 0 n2 n3) := by rw [hw10, ← hGD]; exact bk4_new w9 n0 0 n2 n3 _
    have le_D : w.heap.size ≤ GD := by rw [← hGD]; exact HB.out.size
    have ne_D_M : GD ≠ GM := by have := HM.out.2.2; omega
    have ne_M_D : GM ≠ GD := Ne.symm ne_D_M
    clear qM0 fM0 qM1 fM1 qM2 fM2 qM3 fM3 zM
    have HM := Lib.hid (HM.out.below ((Below.refl _ _).alloc (Nat.le_refl _) (.cells #[.int .i64 n0, .int .i64 0, .int .i64 n2, .int .i64 n3] 52)))
    have HV1 := Lib.hid (HV1.out.below ((Below.refl _ _).alloc (Nat.le_refl _) (.cells #[.int .i64 n0, .int .i64 0, .int .i64 n2, .int .i64 n3] 52)))
    have HB := Lib.hid (Below.alloc HB.out HB.out.size (.cells #[.int .i64 n0, .int .i64 0, .int .i64 n2, .int .i64 n3] 52))
    rw [← hw10] at HM HV1 HB
    clear hw10 hGD
    clear I2 S2
    obtain ⟨⟨qM0, qM1, qM2, qM3⟩, ⟨fM0, fM1, fM2, fM3⟩, zM⟩ := HM.out
    obtain ⟨⟨qD0, qD1, qD2, qD3⟩, ⟨fD0, fD1, fD2, fD3⟩, zD⟩ := HD.out
    go_wp2_with fail
    go_at_call 62
    refine (CD1.out _ HB.out).mono ?_
    rintro e w11 ⟨v3, L3, rfl, ho3, hl3, hb⟩
    clear qM0 fM0 qM1 fM1 qM2 fM2 qM3 fM3 zM qD0 fD0 qD1 fD1 qD2 fD2 qD3 fD3 zD
    have HM := Lib.hid (HM.out.below hb)
    have HD := Lib.hid (HD.out.below hb)
    have HV1 := Lib.hid (HV1.out.below hb)
    have HB := Lib.hid (below_after hb HB.out)
    clear hb
    have HV3 := Lib.hid ho3
    clear ho3
    clear HD
    obtain ⟨e0, e1, e2, e3, c3, hce⟩ := coeV_form L3
    have I3 := Lib.hid (fun B0 w (h : OwnI B0 w v3 L3) => by have := impl_CornerOfExpansion_any B0 v3 L3 w h (by omega); rwa [hce] at this)
    have S3 := Lib.hid (fun B0 w (h : OwnI B0 w v3 L3) => by have := spec_CornerOfExpansion_any B0 v3 L3 w h (by omega); rwa [hce] at this)
    clear hce hl3
    obtain ⟨⟨qM0, qM1, qM2, qM3⟩, ⟨fM0, fM1, fM2, fM3⟩, zM⟩ := HM.out
    go_wp2_with fail
    go_at_call 63
    refine (I3.out _ _ HV3.out).mono ?_
    rintro e w12 ⟨rfl, hb⟩
    clear qM0 fM0 qM1 fM1 qM2 fM2 qM3 fM3 zM
    have HM := Lib.hid (HM.out.below hb)
    have HV1 := Lib.hid (HV1.out.below hb)
    have HV3 := Lib.hid (HV3.out.below hb)
    have HB := Lib.hid (below_after hb HB.out)
    clear hb
    obtain ⟨⟨qM0, qM1, qM2, qM3⟩, ⟨fM0, fM1, fM2, fM3⟩, zM⟩ := HM.out
    go_upto_region 14 with fail
    obtain ⟨GE, hGE⟩ : ∃ g, w12.heap.size = g := ⟨_, rfl⟩
    obtain ⟨w13, hw13⟩ : ∃ wx, wx = w12.alloc (.cells #[.int .i64 e0, .int .i64 e1, .int .i64 e2, .int .i64 e3] 52) := ⟨_, rfl⟩
    rw [← hw13, hGE]
    have HE : Hid (Bk4 w13 GE e0 e1 e2 e3) := by rw [hw13, ← hGE]; exact bk4_new w12 e0 e1 e2 e3 _
    have le_E : w.heap.size ≤ GE := by rw [← hGE]; exact HB.out.size
    have ne_E_M : GE ≠ GM := by have := HM.out.2.2; omega
    have ne_M_E : GM ≠ GE := Ne.symm ne_E_M
    clear qM0 fM0 qM1 fM1 qM2 fM2 qM3 fM3 zM
    have HM := Lib.hid (HM.out.below ((Below.refl _ _).alloc (Nat.le_refl _) (.cells #[.int .i64 e0, .int .i64 e1, .int .i64 e2, .int .i64 e3] 52)))
    have HV1 := Lib.hid (HV1.out.below ((Below.refl _ _).alloc (Nat.le_refl _) (.cells #[.int .i64 e0, .int .i64 e1, .int .i64 e2, .int .i64 e3] 52)))
    have HV3 := Lib.hid (HV3.out.below ((Below.refl _ _).alloc (Nat.le_refl _) (.cells #[.int .i64 e0, .int .i64 e1, .int .i64 e2, .int .i64 e3] 52)))
    have HB := Lib.hid (Below.alloc HB.out HB.out.size (.cells #[.int .i64 e0, .int .i64 e1, .int .i64 e2, .int .i64 e3] 52))
    rw [← hw13] at HM HV1 HV3 HB
    clear hw13 hGE
    obtain ⟨⟨qM0, qM1, qM2, qM3⟩, ⟨fM0, fM1, fM2, fM3⟩, zM⟩ := HM.out
    obtain ⟨⟨qE0, qE1, qE2, qE3⟩, ⟨fE0, fE1, fE2, fE3⟩, zE⟩ := HE.out
    go_wp2_with fail
    go_at_call 64
    refine (S3.out _ _ HV3.out).mono ?_
    rintro e w14 ⟨rfl, hb⟩
    clear qM0 fM0 qM1 fM1 qM2 fM2 qM3 fM3 zM qE0 fE0 qE1 fE1 qE2 fE2 qE3 fE3 zE
    have HM := Lib.hid (HM.out.below hb)
    have HE := Lib.hid (HE.out.below hb)
    have HV1 := Lib.hid (HV1.out.below hb)
    have HV3 := Lib.hid (HV3.out.below hb)
    have HB := Lib.hid (below_after hb HB.out)
    clear hb
    clear HV3 I3 S3
    obtain ⟨⟨qM0, qM1, qM2, qM3⟩, ⟨fM0, fM1, fM2, fM3⟩, zM⟩ := HM.out
    obtain ⟨⟨qE0, qE1, qE2, qE3⟩, ⟨fE0, fE1, fE2, fE3⟩, zE⟩ := HE.out
    go_upto_region 15 with fail
    obtain ⟨GF, hGF⟩ : ∃ g, w14.heap.size = g := ⟨_, rfl⟩
    obtain ⟨w15, hw15⟩ : ∃ wx, wx = w14.alloc (.cells #[.int .i64 e0, .int .i64 e1, .int .i64 e2, .int .i64 e3] 52) := ⟨_, rfl⟩
    rw [← hw15, hGF]
    have HF : Hid (Bk4 w15 GF e0 e1 e2 e3) := by rw [hw15, ← hGF]; exact bk4_new w14 e0 e1 e2 e3 _
    have le_F : w.heap.size ≤ GF := by rw [← hGF]; exact HB.out.size
    have ne_F_M : GF ≠ GM := by have := HM.out.2.2; omega
    have ne_M_F : GM ≠ GF := Ne.symm ne_F_M
    have ne_F_E : GF ≠ GE := by have := HE.out.2.2; omega
    have ne_E_F : GE ≠ GF := Ne.symm ne_F_E
    clear qM0 fM0 qM1 fM1 qM2 fM2 qM3 fM3 zM qE0 fE0 qE1 fE1 qE2 fE2 qE3 fE3 zE
    have HM := Lib.hid (HM.out.below ((Below.refl _ _).alloc (Nat.le_refl _) (.cells #[.int .i64 e0, .int .i64 e1, .int .i64 e2, .int .i64 e3] 52)))
    have HE := Lib.hid (HE.out.below ((Below.refl _ _).alloc (Nat.le_refl _) (.cells #[.int .i64 e0, .int .i64 e1, .int .i64 e2, .int .i64 e3] 52)))
    have HV1 := Lib.hid (HV1.out.below ((Below.refl _ _).alloc (Nat.le_refl _) (.cells #[.int .i64 e0, .int .i64 e1, .int .i64 e2, .int .i64 e3] 52)))
    have HB := Lib.hid (Below.alloc HB.out HB.out.size (.cells #[.int .i64 e0, .int .i64 e1, .int .i64 e2, .int .i64 e3] 52))
    rw [← hw15] at HM HE HV1 HB
    clear hw15 hGF
    obtain ⟨⟨qM0, qM1, qM2, qM3⟩, ⟨fM0, fM1, fM2, fM3⟩, zM⟩ := HM.out
    obtain ⟨⟨qE0, qE1, qE2, qE3⟩, ⟨fE0, fE1, fE2, fE3⟩, zE⟩ := HE.out
    obtain ⟨⟨qF0, qF1, qF2, qF3⟩, ⟨fF0, fF1, fF2, fF3⟩, zF⟩ := HF.out
    go_wp2_with fail
    go_at_call 65
    refine (CD2.out _ HB.out).mono ?_
    rintro e w16 ⟨u, v, rfl, hb⟩
    clear qM0 fM0 qM1 fM1 qM2 fM2 qM3 fM3 zM qE0 fE0 qE1 fE1 qE2 fE2 qE3 fE3 zE qF0 fF0 qF1 fF1 qF2 fF2 qF3 fF3 zF
    have HM := Lib.hid (HM.out.below hb)
    have HE := Lib.hid (HE.out.below hb)
    have HF := Lib.hid (HF.out.below hb)
    have HV1 := Lib.hid (HV1.out.below hb)
    have HB := Lib.hid (below_after hb HB.out)
    clear hb
    clear HE HF
    have I4 := Lib.hid (fun w => impl_CornerOfTangent_any u v w)
    have S4 := Lib.hid (fun w => spec_CornerOfTangent_any u v w)
    obtain ⟨t0, Et0⟩ : ∃ x, oni (tanC u v) 1 = x := ⟨_, rfl⟩
    obtain ⟨t2, Et2⟩ : ∃ x, oni (tanC u v) v = x := ⟨_, rfl⟩
    obtain ⟨t3, Et3⟩ : ∃ x, oni (tanC u v) u = x := ⟨_, rfl⟩
    obtain ⟨c4, Ec4⟩ : ∃ x, tanC u v = x := ⟨_, rfl⟩
    rw [Et0, Et2, Et3, Ec4] at I4 S4
    have HEt0 := Lib.hid Et0
    have HEt2 := Lib.hid Et2
    have HEt3 := Lib.hid Et3
    have HEc4 := Lib.hid Ec4
    clear Et0 Et2 Et3 Ec4
    obtain ⟨⟨qM0, qM1, qM2, qM3⟩, ⟨fM0, fM1, fM2, fM3⟩, zM⟩ := HM.out
    go_wp2_with fail
    go_at_call 66
    refine (I4.out _).mono ?_
    rintro e w17 ⟨rfl, hb⟩
    clear qM0 fM0 qM1 fM1 qM2 fM2 qM3 fM3 zM
    have HM := Lib.hid (HM.out.below hb)
    have HV1 := Lib.hid (HV1.out.below hb)
    have HB := Lib.hid (below_after hb HB.out)
    clear hb
    obtain ⟨⟨qM0, qM1, qM2, qM3⟩, ⟨fM0, fM1, fM2, fM3⟩, zM⟩ := HM.out
    go_upto_region 19 with fail
    obtain ⟨GT, hGT⟩ : ∃ g, w17.heap.size = g := ⟨_, rfl⟩
    obtain ⟨w18, hw18⟩ : ∃ wx, wx = w17.alloc (.cells #[.int .i64 t0, .int .i64 0, .int .i64 t2, .int .i64 t3] 52) := ⟨_, rfl⟩
    rw [← hw18, hGT]
    have HT : Hid (Bk4 w18 GT t0 0 t2 t3) := by rw [hw18, ← hGT]; exact bk4_new w17 t0 0 t2 t3 _
    have le_T : w.heap.size ≤ GT := by rw [← hGT]; exact HB.out.size
    have ne_T_M : GT ≠ GM := by have := HM.out.2.2; omega
    have ne_M_T : GM ≠ GT := Ne.symm ne_T_M
    clear qM0 fM0 qM1 fM1 qM2 fM2 qM3 fM3 zM
    have HM := Lib.hid (HM.out.below ((Below.refl _ _).alloc (Nat.le_refl _) (.cells #[.int .i64 t0, .int .i64 0, .int .i64 t2, .int .i64 t3] 52)))
    have HV1 := Lib.hid (HV1.out.below ((Below.refl _ _).alloc (Nat.le_refl _) (.cells #[.int .i64 t0, .int .i64 0, .int .i64 t2, .int .i64 t3] 52)))
    have HB := Lib.hid (Below.alloc HB.out HB.out.size (.cells #[.int .i64 t0, .int .i64 0, .int .i64 t2, .int .i64 t3] 52))
    rw [← hw18] at HM HV1 HB
    clear hw18 hGT
    obtain ⟨⟨qM0, qM1, qM2, qM3⟩, ⟨fM0, fM1, fM2, fM3⟩, zM⟩ := HM.out
    obtain ⟨⟨qT0, qT1, qT2, qT3⟩, ⟨fT0, fT1, fT2, fT3⟩, zT⟩ := HT.out
    go_wp2_with fail
    go_at_call 67
    refine (S4.out _).mono ?_
    rintro e w19 ⟨rfl, hb⟩
    clear qM0 fM0 qM1 fM1 qM2 fM2 qM3 fM3 zM qT0 fT0 qT1 fT1 qT2 fT2 qT3 fT3 zT
    have HM := Lib.hid (HM.out.below hb)
    have HT := Lib.hid (HT.out.below hb)
    have HV1 := Lib.hid (HV1.out.below hb)
    have HB := Lib.hid (below_after hb HB.out)
    clear hb
    obtain ⟨⟨qM0, qM1, qM2, qM3⟩, ⟨fM0, fM1, fM2, fM3⟩, zM⟩ := HM.out
    obtain ⟨⟨qT0, qT1, qT2, qT3⟩, ⟨fT0, fT1, fT2, fT3⟩, zT⟩ := HT.out
    go_upto_region 20 with fail
    obtain ⟨GU, hGU⟩ : ∃ g, w19.heap.size = g := ⟨_, rfl⟩
    obtain ⟨w20, hw20⟩ : ∃ wx, wx = w19.alloc (.cells #[.int .i64 t0, .int .i64 0, .int .i64 t2, .int .i64 t3] 52) := ⟨_, rfl⟩
    rw [← hw20, hGU]
    have HU : Hid (Bk4 w20 GU t0 0 t2 t3) := by rw [hw20, ← hGU]; exact bk4_new w19 t0 0 t2 t3 _
    have le_U : w.heap.size ≤ GU := by rw [← hGU]; exact HB.out.size
    have ne_U_M : GU ≠ GM := by have := HM.out.2.2; omega
    have ne_M_U : GM ≠ GU := Ne.symm ne_U_M
    have ne_U_T : GU ≠ GT := by have := HT.out.2.2; omega
    have ne_T_U : GT ≠ GU := Ne.symm ne_U_T
    clear qM0 fM0 qM1 fM1 qM2 fM2 qM3 fM3 zM qT0 fT0 qT1 fT1 qT2 fT2 qT3 fT3 zT
    have HM := Lib.hid (HM.out.below ((Below.refl _ _).alloc (Nat.le_refl _) (.cells #[.int .i64 t0, .int .i64 0, .int .i64 t2, .int .i64 t3] 52)))
    have HT := Lib.hid (HT.out.below ((Below.refl _ _).alloc (Nat.le_refl _) (.cells #[.int .i64 t0, .int .i64 0, .int .i64 t2, .int .i64 t3] 52)))
    have HV1 := Lib.hid (HV1.out.below ((Below.refl _ _).alloc (Nat.le_refl _) (.cells #[.int .i64 t0, .int .i64 0, .int .i64 t2, .int .i64 t3] 52)))
    have HB := Lib.hid (Below.alloc HB.out HB.out.size (.cells #[.int .i64 t0, .int .i64 0, .int .i64 t2, .int .i64 t3] 52))
    rw [← hw20] at HM HT HV1 HB
    clear hw20 hGU
    clear I4 S4
    obtain ⟨⟨qM0, qM1, qM2, qM3⟩, ⟨fM0, fM1, fM2, fM3⟩, zM⟩ := HM.out
    obtain ⟨⟨qT0, qT1, qT2, qT3⟩, ⟨fT0, fT1, fT2, fT3⟩, zT⟩ := HT.out
    obtain ⟨⟨qU0, qU1, qU2, qU3⟩, ⟨fU0, fU1, fU2, fU3⟩, zU⟩ := HU.out
    go_wp2_with fail
    go_at_call 68
    refine (CD3.out _ HB.out).mono ?_
    rintro e w21 ⟨g0, g1, g2, g3, h0, h1, h2, h3, kk, rfl, hb⟩
    clear qM0 fM0 qM1 fM1 qM2 fM2 qM3 fM3 zM qT0 fT0 qT1 fT1 qT2 fT2 qT3 fT3 zT qU0 fU0 qU1 fU1 qU2 fU2 qU3 fU3 zU
    have HM := Lib.hid (HM.out.below hb)
    have HT := Lib.hid (HT.out.below hb)
    have HU := Lib.hid (HU.out.below hb)
    have HV1 := Lib.hid (HV1.out.below hb)
    have HB := Lib.hid (below_after hb HB.out)
    clear hb
    clear HU
    obtain ⟨⟨qM0, qM1, qM2, qM3⟩, ⟨fM0, fM1, fM2, fM3⟩, zM⟩ := HM.out
    obtain ⟨⟨qT0, qT1, qT2, qT3⟩, ⟨fT0, fT1, fT2, fT3⟩, zT⟩ := HT.out
    go_upto_region 23 with fail
    obtain ⟨w22, hw22⟩ : ∃ wx, wx = (w21.alloc (.cells #[.int .i64 g0, .int .i64 g1, .int .i64 g2, .int .i64 g3] 52)).alloc (.cells #[.int .i64 h0, .int .i64 h1, .int .i64 h2, .int .i64 h3] 52) := ⟨_, rfl⟩
    rw [← hw22]
    obtain ⟨GG, hGG⟩ : ∃ g, w21.heap.size = g := ⟨_, rfl⟩
    have HG : Hid (Bk4 w22 GG g0 g1 g2 g3) := by
      have h := (bk4_new w21 g0 g1 g2 g3 52).below (W' := w22) (by rw [hw22]; (repeat' (first | (with_reducible exact Below.refl _ _) | (with_reducible refine Below.alloc ?_ ?_ _) | (with_reducible refine Below.setCell ?_ ?_ _) | (with_reducible refine Below.drew ?_) | (with_reducible refine below_drewN ?_ _) | (with_reducible assumption) | (with_reducible refine below_after (by with_reducible assumption) ?_) | go_size)))
      (try simp only [World.size_alloc] at h)
      rw [hGG] at h
      exact h
    have le_G : w.heap.size ≤ GG := by have := HB.out.size; omega
    have ne_G_M : GG ≠ GM := by have := HM.out.2.2; omega
    have ne_M_G : GM ≠ GG := Ne.symm ne_G_M
    have ne_G_T : GG ≠ GT := by have := HT.out.2.2; omega
    have ne_T_G : GT ≠ GG := Ne.symm ne_G_T
    obtain ⟨GH, hGH⟩ : ∃ g, w21.heap.size + 1 = g := ⟨_, rfl⟩
    have HH : Hid (Bk4 w22 GH h0 h1 h2 h3) := by
      have h := (bk4_new (w21.alloc (.cells #[.int .i64 g0, .int .i64 g1, .int .i64 g2, .int .i64 g3] 52)) h0 h1 h2 h3 52).below (W' := w22) (by rw [hw22]; (repeat' (first | (with_reducible exact Below.refl _ _) | (with_reducible refine Below.alloc ?_ ?_ _) | (with_reducible refine Below.setCell ?_ ?_ _) | (with_reducible refine Below.drew ?_) | (with_reducible refine below_drewN ?_ _) | (with_reducible assumption) | (with_reducible refine below_after (by with_reducible assumption) ?_) | go_size)))
      (try simp only [World.size_alloc] at h)
      rw [hGH] at h
      exact h
    have le_H : w.heap.size ≤ GH := by have := HB.out.size; omega
    have ne_H_M : GH ≠ GM := by have := HM.out.2.2; omega
    have ne_M_H : GM ≠ GH := Ne.symm ne_H_M
    have ne_H_T : GH ≠ GT := by have := HT.out.2.2; omega
    have ne_T_H : GT ≠ GH := Ne.symm ne_H_T
    have ne_H_G : GH ≠ GG := by omega
    have ne_G_H : GG ≠ GH := Ne.symm ne_H_G
    clear qM0 fM0 qM1 fM1 qM2 fM2 qM3 fM3 zM qT0 fT0 qT1 fT1 qT2 fT2 qT3 fT3 zT
    have hbn : Below w21.heap.size w21 w22 := by rw [hw22]; (repeat' (first | (with_reducible exact Below.refl _ _) | (with_reducible refine Below.alloc ?_ ?_ _) | (with_reducible refine Below.setCell ?_ ?_ _) | (with_reducible refine Below.drew ?_) | (with_reducible refine below_drewN ?_ _) | (with_reducible assumption) | (with_reducible refine below_after (by with_reducible assumption) ?_) | go_size))
    have HM := Lib.hid (HM.out.below hbn)
    have HT := Lib.hid (HT.out.below hbn)
    have HV1 := Lib.hid (HV1.out.below hbn)
    have HB := Lib.hid (below_after hbn HB.out)
    clear hbn
    rw [hGG] at hGH
    simp only [hGG]
    simp only [hGH]
    clear hw22 hGG hGH
    have I5 := Lib.hid (fun w => impl_SumOfCorners_any g0 g1 g2 g3 h0 h1 h2 h3 kk w)
    have S5 := Lib.hid (fun w => spec_SumOfCorners_any g0 g1 g2 g3 h0 h1 h2 h3 kk w)
    unfold smV at I5 S5
    obtain ⟨s0, Es0⟩ : ∃ x, oni (smC g0 g1 g2 g3 h0 h1 h2 h3 kk) 1 = x := ⟨_, rfl⟩
    obtain ⟨s2, Es2⟩ : ∃ x, oni (smC g0 g1 g2 g3 h0 h1 h2 h3 kk) (smX g0 g1 g2 g3 h0 h1 h2 h3 kk) = x := ⟨_, rfl⟩
    obtain ⟨s3, Es3⟩ : ∃ x, oni (smC g0 g1 g2 g3 h0 h1 h2 h3 kk) (smY g0 g1 g2 g3 h0 h1 h2 h3 kk) = x := ⟨_, rfl⟩
    obtain ⟨c5, Ec5⟩ : ∃ x, smC g0 g1 g2 g3 h0 h1 h2 h3 kk = x := ⟨_, rfl⟩
    rw [Es0, Es2, Es3, Ec5] at I5 S5
    have HEs0 := Lib.hid Es0
    have HEs2 := Lib.hid Es2
    have HEs3 := Lib.hid Es3
    have HEc5 := Lib.hid Ec5
    clear Es0 Es2 Es3 Ec5
    obtain ⟨⟨qM0, qM1, qM2, qM3⟩, ⟨fM0, fM1, fM2, fM3⟩, zM⟩ := HM.out
    obtain ⟨⟨qT0, qT1, qT2, qT3⟩, ⟨fT0, fT1, fT2, fT3⟩, zT⟩ := HT.out
    obtain ⟨⟨qG0, qG1, qG2, qG3⟩, ⟨fG0, fG1, fG2, fG3⟩, zG⟩ := HG.out
    obtain ⟨⟨qH0, qH1, qH2, qH3⟩, ⟨fH0, fH1, fH2, fH3⟩, zH⟩ := HH.out
    go_wp2_with fail
    go_at_call 69
    refine (I5.out _).mono ?_
    rintro e w23 ⟨rfl, hb⟩
    clear qM0 fM0 qM1 fM1 qM2 fM2 qM3 fM3 zM qT0 fT0 qT1 fT1 qT2 fT2 qT3 fT3 zT qG0 fG0 qG1 fG1 qG2 fG2 qG3 fG3 zG qH0 fH0 qH1 fH1 qH2 fH2 qH3 fH3 zH
    have HM := Lib.hid (HM.out.below hb)
    have HT := Lib.hid (HT.out.below hb)
    have HG := Lib.hid (HG.out.below hb)
    have HH := Lib.hid (HH.out.below hb)
    have HV1 := Lib.hid (HV1.out.below hb)
    have HB := Lib.hid (below_after hb HB.out)
    clear hb
    obtain ⟨⟨qM0, qM1, qM2, qM3⟩, ⟨fM0, fM1, fM2, fM3⟩, zM⟩ := HM.out
    obtain ⟨⟨qT0, qT1, qT2, qT3⟩, ⟨fT0, fT1, fT2, fT3⟩, zT⟩ := HT.out
    obtain ⟨⟨qG0, qG1, qG2, qG3⟩, ⟨fG0, fG1, fG2, fG3⟩, zG⟩ := HG.out
    obtain ⟨⟨qH0, qH1, qH2, qH3⟩, ⟨fH0, fH1, fH2, fH3⟩, zH⟩ := HH.out
    go_upto_region 24 with fail
    obtain ⟨GS, hGS⟩ : ∃ g, w23.heap.size = g := ⟨_, rfl⟩
    obtain ⟨w24, hw24⟩ : ∃ wx, wx = w23.alloc (.cells #[.int .i64 s0, .int .i64 0, .int .i64 s2, .int .i64 s3] 52) := ⟨_, rfl⟩
    rw [← hw24, hGS]
    have HS : Hid (Bk4 w24 GS s0 0 s2 s3) := by rw [hw24, ← hGS]; exact bk4_new w23 s0 0 s2 s3 _
    have le_S : w.heap.size ≤ GS := by rw [← hGS]; exact HB.out.size
    have ne_S_M : GS ≠ GM := by have := HM.out.2.2; omega
    have ne_M_S : GM ≠ GS := Ne.symm ne_S_M
    have ne_S_T : GS ≠ GT := by have := HT.out.2.2; omega
    have ne_T_S : GT ≠ GS := Ne.symm ne_S_T
    have ne_S_G : GS ≠ GG := by have := HG.out.2.2; omega
    have ne_G_S : GG ≠ GS := Ne.symm ne_S_G
    have ne_S_H : GS ≠ GH := by have := HH.out.2.2; omega
    have ne_H_S : GH ≠ GS := Ne.symm ne_S_H
    clear qM0 fM0 qM1 fM1 qM2 fM2 qM3 fM3 zM qT0 fT0 qT1 fT1 qT2 fT2 qT3 fT3 zT qG0 fG0 qG1 fG1 qG2 fG2 qG3 fG3 zG qH0 fH0 qH1 fH1 qH2 fH2 qH3 fH3 zH
    have HM := Lib.hid (HM.out.below ((Below.refl _ _).alloc (Nat.le_refl _) (.cells #[.int .i64 s0, .int .i64 0, .int .i64 s2, .int .i64 s3] 52)))
    have HT := Lib.hid (HT.out.below ((Below.refl _ _).alloc (Nat.le_refl _) (.cells #[.int .i64 s0, .int .i64 0, .int .i64 s2, .int .i64 s3] 52)))
    have HG := Lib.hid (HG.out.below ((Below.refl _ _).alloc (Nat.le_refl _) (.cells #[.int .i64 s0, .int .i64 0, .int .i64 s2, .int .i64 s3] 52)))
    have HH := Lib.hid (HH.out.below ((Below.refl _ _).alloc (Nat.le_refl _) (.cells #[.int .i64 s0, .int .i64 0, .int .i64 s2, .int .i64 s3] 52)))
    have HV1 := Lib.hid (HV1.out.below ((Below.refl _ _).alloc (Nat.le_refl _) (.cells #[.int .i64 s0, .int .i64 0, .int .i64 s2, .int .i64 s3] 52)))
    have HB := Lib.hid (Below.alloc HB.out HB.out.size (.cells #[.int .i64 s0, .int .i64 0, .int .i64 s2, .int .i64 s3] 52))
    rw [← hw24] at HM HT HG HH HV1 HB
    clear hw24 hGS
    obtain ⟨⟨qM0, qM1, qM2, qM3⟩, ⟨fM0, fM1, fM2, fM3⟩, zM⟩ := HM.out
    obtain ⟨⟨qT0, qT1, qT2, qT3⟩, ⟨fT0, fT1, fT2, fT3⟩, zT⟩ := HT.out
    obtain ⟨⟨qG0, qG1, qG2, qG3⟩, ⟨fG0, fG1, fG2, fG3⟩, zG⟩ := HG.out
    obtain ⟨⟨qH0, qH1, qH2, qH3⟩, ⟨fH0, fH1, fH2, fH3⟩, zH⟩ := HH.out
    obtain ⟨⟨qS0, qS1, qS2, qS3⟩, ⟨fS0, fS1, fS2, fS3⟩, zS⟩ := HS.out
    go_wp2_with fail
    go_at_call 70
    refine (S5.out _).mono ?_
    rintro e w25 ⟨rfl, hb⟩
    clear qM0 fM0 qM1 fM1 qM2 fM2 qM3 fM3 zM qT0 fT0 qT1 fT1 qT2 fT2 qT3 fT3 zT qG0 fG0 qG1 fG1 qG2 fG2 qG3 fG3 zG qH0 fH0 qH1 fH1 qH2 fH2 qH3 fH3 zH qS0 fS0 qS1 fS1 qS2 fS2 qS3 fS3 zS
    have HM := Lib.hid (HM.out.below hb)
    have HT := Lib.hid (HT.out.below hb)
    have HG := Lib.hid (HG.out.below hb)
    have HH := Lib.hid (HH.out.below hb)
    have HS := Lib.hid (HS.out.below hb)
    have HV1 := Lib.hid (HV1.out.below hb)
    have HB := Lib.hid (below_after hb HB.out)
    clear hb
    clear HG HH
    obtain ⟨⟨qM0, qM1, qM2, qM3⟩, ⟨fM0, fM1, fM2, fM3⟩, zM⟩ := HM.out
    obtain ⟨⟨qT0, qT1, qT2, qT3⟩, ⟨fT0, fT1, fT2, fT3⟩, zT⟩ := HT.out
    obtain ⟨⟨qS0, qS1, qS2, qS3⟩, ⟨fS0, fS1, fS2, fS3⟩, zS⟩ := HS.out
    go_upto_region 25 with fail
    obtain ⟨GW, hGW⟩ : ∃ g, w25.heap.size = g := ⟨_, rfl⟩
    obtain ⟨w26, hw26⟩ : ∃ wx, wx = w25.alloc (.cells #[.int .i64 s0, .int .i64 0, .int .i64 s2, .int .i64 s3] 52) := ⟨_, rfl⟩
    rw [← hw26, hGW]
    have HW : Hid (Bk4 w26 GW s0 0 s2 s3) := by rw [hw26, ← hGW]; exact bk4_new w25 s0 0 s2 s3 _
    have le_W : w.heap.size ≤ GW := by rw [← hGW]; exact HB.out.size
    have ne_W_M : GW ≠ GM := by have := HM.out.2.2; omega
    have ne_M_W : GM ≠ GW := Ne.symm ne_W_M
    have ne_W_T : GW ≠ GT := by have := HT.out.2.2; omega
    have ne_T_W : GT ≠ GW := Ne.symm ne_W_T
    have ne_W_S : GW ≠ GS := by have := HS.out.2.2; omega
    have ne_S_W : GS ≠ GW := Ne.symm ne_W_S
    clear qM0 fM0 qM1 fM1 qM2 fM2 qM3 fM3 zM qT0 fT0 qT1 fT1 qT2 fT2 qT3 fT3 zT qS0 fS0 qS1 fS1 qS2 fS2 qS3 fS3 zS
    have HM := Lib.hid (HM.out.below ((Below.refl _ _).alloc (Nat.le_refl _) (.cells #[.int .i64 s0, .int .i64 0, .int .i64 s2, .int .i64 s3] 52)))
    have HT := Lib.hid (HT.out.below ((Below.refl _ _).alloc (Nat.le_refl _) (.cells #[.int .i64 s0, .int .i64 0, .int .i64 s2, .int .i64 s3] 52)))
    have HS := Lib.hid (HS.out.below ((Below.refl _ _).alloc (Nat.le_refl _) (.cells #[.int .i64 s0, .int .i64 0, .int .i64 s2, .int .i64 s3] 52)))
    have HV1 := Lib.hid (HV1.out.below ((Below.refl _ _).alloc (Nat.le_refl _) (.cells #[.int .i64 s0, .int .i64 0, .int .i64 s2, .int .i64 s3] 52)))
    have HB := Lib.hid (Below.alloc HB.out HB.out.size (.cells #[.int .i64 s0, .int .i64 0, .int .i64 s2, .int .i64 s3] 52))
    rw [← hw26] at HM HT HS HV1 HB
    clear hw26 hGW
    clear I5 S5
    obtain ⟨⟨qM0, qM1, qM2, qM3⟩, ⟨fM0, fM1, fM2, fM3⟩, zM⟩ := HM.out
    obtain ⟨⟨qT0, qT1, qT2, qT3⟩, ⟨fT0, fT1, fT2, fT3⟩, zT⟩ := HT.out
    obtain ⟨⟨qS0, qS1, qS2, qS3⟩, ⟨fS0, fS1, fS2, fS3⟩, zS⟩ := HS.out
    obtain ⟨⟨qW0, qW1, qW2, qW3⟩, ⟨fW0, fW1, fW2, fW3⟩, zW⟩ := HW.out
    go_upto_if 153 with fail
    clear qM0 fM0 qM1 fM1 qM2 fM2 qM3 fM3 zM qT0 fT0 qT1 fT1 qT2 fT2 qT3 fT3 zT qS0 fS0 qS1 fS1 qS2 fS2 qS3 fS3 zS qW0 fW0 qW1 fW1 qW2 fW2 qW3 fW3 zW
    go_cut [] from 300 (fun wx => Below w.heap.size w wx ∧ Bk4 wx GM n0 0 n2 n3 ∧ Bk4 wx GT t0 0 t2 t3 ∧ OwnI w3.heap.size wx (.slice va1 N vc1) L)
    case first =>
      clear HW
      by_cases hc5 : c5 = 0
      · skip
        subst hc5
        obtain ⟨q1, q2, q3⟩ := sum_norm HEc5.out
        have r0 : 1 = s0 := by have := HEs0.out; rw [HEc5.out, oni_0] at this; exact this
        have r2 : smX g0 g1 g2 g3 h0 h1 h2 h3 kk = s2 := by have := HEs2.out; rw [HEc5.out, oni_0] at this; exact this
        have r3 : smY g0 g1 g2 g3 h0 h1 h2 h3 kk = s3 := by have := HEs3.out; rw [HEc5.out, oni_0] at this; exact this
        rw [r2, r3] at q1 q2 q3
        have I6 := Lib.hid (fun w => impl_NormalCorner_any s0 0 s2 s3 w)
        rw [← r0] at I6
        rw [q1, q2, q3, oni_0, oni_0, oni_0, r0] at I6
        clear q1 q2 q3 r0 r2 r3
        obtain ⟨⟨qM0, qM1, qM2, qM3⟩, ⟨fM0, fM1, fM2, fM3⟩, zM⟩ := HM.out
        obtain ⟨⟨qT0, qT1, qT2, qT3⟩, ⟨fT0, fT1, fT2, fT3⟩, zT⟩ := HT.out
        obtain ⟨⟨qS0, qS1, qS2, qS3⟩, ⟨fS0, fS1, fS2, fS3⟩, zS⟩ := HS.out
        go_wp2_with fail
        go_at_call 60
        refine (I6.out _).mono ?_
        rintro e w27 ⟨rfl, hb⟩
        clear qM0 fM0 qM1 fM1 qM2 fM2 qM3 fM3 zM qT0 fT0 qT1 fT1 qT2 fT2 qT3 fT3 zT qS0 fS0 qS1 fS1 qS2 fS2 qS3 fS3 zS
        have HM := Lib.hid (HM.out.below hb)
        have HT := Lib.hid (HT.out.below hb)
        have HS := Lib.hid (HS.out.below hb)
        have HV1 := Lib.hid (HV1.out.below hb)
        have HB := Lib.hid (below_after hb HB.out)
        clear hb
        obtain ⟨⟨qM0, qM1, qM2, qM3⟩, ⟨fM0, fM1, fM2, fM3⟩, zM⟩ := HM.out
        obtain ⟨⟨qT0, qT1, qT2, qT3⟩, ⟨fT0, fT1, fT2, fT3⟩, zT⟩ := HT.out
        obtain ⟨⟨qS0, qS1, qS2, qS3⟩, ⟨fS0, fS1, fS2, fS3⟩, zS⟩ := HS.out
        go_upto_region 29 with fail
        obtain ⟨GY, hGY⟩ : ∃ g, w27.heap.size = g := ⟨_, rfl⟩
        obtain ⟨w28, hw28⟩ : ∃ wx, wx = w27.alloc (.cells #[.int .i64 s0, .int .i64 0, .int .i64 s2, .int .i64 s3] 52) := ⟨_, rfl⟩
        rw [← hw28, hGY]
        have HY : Hid (Bk4 w28 GY s0 0 s2 s3) := by rw [hw28, ← hGY]; exact bk4_new w27 s0 0 s2 s3 _
        have le_Y : w.heap.size ≤ GY := by rw [← hGY]; exact HB.out.size
        have ne_Y_M : GY ≠ GM := by have := HM.out.2.2; omega
        have ne_M_Y : GM ≠ GY := Ne.symm ne_Y_M
        have ne_Y_T : GY ≠ GT := by have := HT.out.2.2; omega
        have ne_T_Y : GT ≠ GY := Ne.symm ne_Y_T
        have ne_Y_S : GY ≠ GS := by have := HS.out.2.2; omega
        have ne_S_Y : GS ≠ GY := Ne.symm ne_Y_S
        clear qM0 fM0 qM1 fM1 qM2 fM2 qM3 fM3 zM qT0 fT0 qT1 fT1 qT2 fT2 qT3 fT3 zT qS0 fS0 qS1 fS1 qS2 fS2 qS3 fS3 zS
        have HM := Lib.hid (HM.out.below ((Below.refl _ _).alloc (Nat.le_refl _) (.cells #[.int .i64 s0, .int .i64 0, .int .i64 s2, .int .i64 s3] 52)))
        have HT := Lib.hid (HT.out.below ((Below.refl _ _).alloc (Nat.le_refl _) (.cells #[.int .i64 s0, .int .i64 0, .int .i64 s2, .int .i64 s3] 52)))
        have HS := Lib.hid (HS.out.below ((Below.refl _ _).alloc (Nat.le_refl _) (.cells #[.int .i64 s0, .int .i64 0, .int .i64 s2, .int .i64 s3] 52)))
        have HV1 := Lib.hid (HV1.out.below ((Below.refl _ _).alloc (Nat.le_refl _) (.cells #[.int .i64 s0, .int .i64 0, .int .i64 s2, .int .i64 s3] 52)))
        have HB := Lib.hid (Below.alloc HB.out HB.out.size (.cells #[.int .i64 s0, .int .i64 0, .int .i64 s2, .int .i64 s3] 52))
        rw [← hw28] at HM HT HS HV1 HB
        clear hw28 hGY
        obtain ⟨⟨qM0, qM1, qM2, qM3⟩, ⟨fM0, fM1, fM2, fM3⟩, zM⟩ := HM.out
        obtain ⟨⟨qT0, qT1, qT2, qT3⟩, ⟨fT0, fT1, fT2, fT3⟩, zT⟩ := HT.out
        obtain ⟨⟨qS0, qS1, qS2, qS3⟩, ⟨fS0, fS1, fS2, fS3⟩, zS⟩ := HS.out
        obtain ⟨⟨qY0, qY1, qY2, qY3⟩, ⟨fY0, fY1, fY2, fY3⟩, zY⟩ := HY.out
        go_wp2_with fail
        go_meet
        exact ⟨HB.out, HM.out, HT.out, HV1.out⟩
      · skip
        have hne : (c5 == 0) = false := by simp [hc5]
        obtain ⟨⟨qM0, qM1, qM2, qM3⟩, ⟨fM0, fM1, fM2, fM3⟩, zM⟩ := HM.out
        obtain ⟨⟨qT0, qT1, qT2, qT3⟩, ⟨fT0, fT1, fT2, fT3⟩, zT⟩ := HT.out
        obtain ⟨⟨qS0, qS1, qS2, qS3⟩, ⟨fS0, fS1, fS2, fS3⟩, zS⟩ := HS.out
        go_wp2_with fail
        go_meet
        exact ⟨HB.out, HM.out, HT.out, HV1.out⟩
    case rest =>
      obtain ⟨hc0, hcM, hcT, hcV1⟩ := hcut
      have HB := Lib.hid hc0
      have HM := Lib.hid hcM
      have HT := Lib.hid hcT
      have HV1 := Lib.hid hcV1
      clear hc0 hcM hcT hcV1
      clear HS
      clear HW
      obtain ⟨⟨qM0, qM1, qM2, qM3⟩, ⟨fM0, fM1, fM2, fM3⟩, zM⟩ := HM.out
      obtain ⟨⟨qT0, qT1, qT2, qT3⟩, ⟨fT0, fT1, fT2, fT3⟩, zT⟩ := HT.out
      go_upto_if 167 with fail
      clear qM0 fM0 qM1 fM1 qM2 fM2 qM3 fM3 zM qT0 fT0 qT1 fT1 qT2 fT2 qT3 fT3 zT
      go_cut [] from 300 (fun wx => Below w.heap.size w wx ∧ Bk4 wx GM n0 0 n2 n3 ∧ OwnI w3.heap.size wx (.slice va1 N vc1) L)
      case first =>
        by_cases hc4 : c4 = 0
        · skip
          subst hc4
          obtain ⟨q1, q2, q3⟩ := tanC_ok HEc4.out
          have r0 : 1 = t0 := by have := HEt0.out; rw [HEc4.out, oni_0] at this; exact this
          have r2 : v = t2 := by have := HEt2.out; rw [HEc4.out, oni_0] at this; exact this
          have r3 : u = t3 := by have := HEt3.out; rw [HEc4.out, oni_0] at this; exact this
          rw [r2, r3] at q1 q2 q3
          have I6 := Lib.hid (fun w => impl_SineOf_any t0 0 t2 t3 w)
          have I7 := Lib.hid (fun w => impl_CosineOf_any t0 0 t2 t3 w)
          rw [← r0] at I6 I7
          rw [q1, q3, oni_0, r0] at I6
          rw [q1, q2, oni_0, r0] at I7
          clear q1 q2 q3 r0
          subst r2
          subst r3
          obtain ⟨⟨qM0, qM1, qM2, qM3⟩, ⟨fM0, fM1, fM2, fM3⟩, zM⟩ := HM.out
          obtain ⟨⟨qT0, qT1, qT2, qT3⟩, ⟨fT0, fT1, fT2, fT3⟩, zT⟩ := HT.out
          go_wp2_with fail
          go_at_call 45
          refine (I6.out _).mono ?_
          rintro e w127 ⟨rfl, hb⟩
          clear qM0 fM0 qM1 fM1 qM2 fM2 qM3 fM3 zM qT0 fT0 qT1 fT1 qT2 fT2 qT3 fT3 zT
          have HM := Lib.hid (HM.out.below hb)
          have HT := Lib.hid (HT.out.below hb)
          have HV1 := Lib.hid (HV1.out.below hb)
          have HB := Lib.hid (below_after hb HB.out)
          clear hb
          obtain ⟨⟨qM0, qM1, qM2, qM3⟩, ⟨fM0, fM1, fM2, fM3⟩, zM⟩ := HM.out
          obtain ⟨⟨qT0, qT1, qT2, qT3⟩, ⟨fT0, fT1, fT2, fT3⟩, zT⟩ := HT.out
          go_wp2_with fail
          go_at_call 43
          refine (I7.out _).mono ?_
          rintro e w128 ⟨rfl, hb⟩
          clear qM0 fM0 qM1 fM1 qM2 fM2 qM3 fM3 zM qT0 fT0 qT1 fT1 qT2 fT2 qT3 fT3 zT
          have HM := Lib.hid (HM.out.below hb)
          have HT := Lib.hid (HT.out.below hb)
          have HV1 := Lib.hid (HV1.out.below hb)
          have HB := Lib.hid (below_after hb HB.out)
          clear hb
          obtain ⟨⟨qM0, qM1, qM2, qM3⟩, ⟨fM0, fM1, fM2, fM3⟩, zM⟩ := HM.out
          obtain ⟨⟨qT0, qT1, qT2, qT3⟩, ⟨fT0, fT1, fT2, fT3⟩, zT⟩ := HT.out
          go_wp2_with fail
          go_meet
          exact ⟨HB.out, HM.out, HV1.out⟩
        · skip
          have hne : (c4 == 0) = false := by simp [hc4]
          obtain ⟨⟨qM0, qM1, qM2, qM3⟩, ⟨fM0, fM1, fM2, fM3⟩, zM⟩ := HM.out
          obtain ⟨⟨qT0, qT1, qT2, qT3⟩, ⟨fT0, fT1, fT2, fT3⟩, zT⟩ := HT.out
          go_wp2_with fail
          go_meet
          exact ⟨HB.out, HM.out, HV1.out⟩
      case rest =>
        obtain ⟨hc0, hcM, hcV1⟩ := hcut
        have HB := Lib.hid hc0
        have HM := Lib.hid hcM
        have HV1 := Lib.hid hcV1
        clear hc0 hcM hcV1
        clear HT
        by_cases hc1 : c1 = 0
        · skip
          subst hc1
          obtain ⟨q1, q2, q3⟩ := long_back HEc1.out
          rw [HEL.out] at q1 q2 q3
          rw [HEN.out] at q1 q2
          have r0 : 1 = n0 := by have := HEn0.out; rw [HEc1.out, oni_0] at this; exact this
          have r2 : cosI x0 y0 x1 y1 = n2 := by have := HEn2.out; rw [HEc1.out, oni_0] at this; exact this
          have r3 : sinI x0 y0 x1 y1 = n3 := by have := HEn3.out; rw [HEc1.out, oni_0] at this; exact this
          rw [r2, r3] at q3
          have hln : L.length ≤ 1048576 := by rw [HEN.out]; omega
          have I8 : Hid (∀ B0 w, OwnI B0 w (.slice va1 N vc1) L → Calls Try.prog 63 #[.slice va1 N vc1] w fun e w' => e = .returned (.tuple #[.agg #[.int .i64 1, .int .i64 0, .int .i64 n2, .int .i64 n3], .int .i64 0]) ∧ Below w.heap.size w w') := fun B0 w h => q3 ▸ impl_CornerOfExpansion_any B0 (.slice va1 N vc1) L w h hln
          have hodd : ((N : Int) % 2) = 1 := by omega
          have hodt : (N : Int).tmod 2 = 1 := by rw [Int.tmod_eq_emod_of_nonneg (by omega)]; exact hodd
          have HODD := Lib.hid hodd
          have HODT := Lib.hid hodt
          subst r0
          clear q1 q2 q3 r2 r3 hodd hodt hln
          obtain ⟨⟨qM0, qM1, qM2, qM3⟩, ⟨fM0, fM1, fM2, fM3⟩, zM⟩ := HM.out
          go_wp2_with fail
          go_at_call 63
          refine (I8.out _ _ HV1.out).mono ?_
          rintro e w227 ⟨rfl, hb⟩
          clear qM0 fM0 qM1 fM1 qM2 fM2 qM3 fM3 zM
          have HM := Lib.hid (HM.out.below hb)
          have HV1 := Lib.hid (HV1.out.below hb)
          have HB := Lib.hid (below_after hb HB.out)
          clear hb
          obtain ⟨⟨qM0, qM1, qM2, qM3⟩, ⟨fM0, fM1, fM2, fM3⟩, zM⟩ := HM.out
          go_upto_region 39 with fail
          obtain ⟨GZ, hGZ⟩ : ∃ g, w227.heap.size = g := ⟨_, rfl⟩
          obtain ⟨w228, hw228⟩ : ∃ wx, wx = w227.alloc (.cells #[.int .i64 1, .int .i64 0, .int .i64 n2, .int .i64 n3] 52) := ⟨_, rfl⟩
          rw [← hw228, hGZ]
          have HZ : Hid (Bk4 w228 GZ 1 0 n2 n3) := by rw [hw228, ← hGZ]; exact bk4_new w227 1 0 n2 n3 _
          have le_Z : w.heap.size ≤ GZ := by rw [← hGZ]; exact HB.out.size
          have ne_Z_M : GZ ≠ GM := by have := HM.out.2.2; omega
          have ne_M_Z : GM ≠ GZ := Ne.symm ne_Z_M
          clear qM0 fM0 qM1 fM1 qM2 fM2 qM3 fM3 zM
          have HM := Lib.hid (HM.out.below ((Below.refl _ _).alloc (Nat.le_refl _) (.cells #[.int .i64 1, .int .i64 0, .int .i64 n2, .int .i64 n3] 52)))
          have HV1 := Lib.hid (HV1.out.below ((Below.refl _ _).alloc (Nat.le_refl _) (.cells #[.int .i64 1, .int .i64 0, .int .i64 n2, .int .i64 n3] 52)))
          have HB := Lib.hid (Below.alloc HB.out HB.out.size (.cells #[.int .i64 1, .int .i64 0, .int .i64 n2, .int .i64 n3] 52))
          rw [← hw228] at HM HV1 HB
          clear hw228 hGZ
          obtain ⟨⟨qM0, qM1, qM2, qM3⟩, ⟨fM0, fM1, fM2, fM3⟩, zM⟩ := HM.out
          obtain ⟨⟨qZ0, qZ1, qZ2, qZ3⟩, ⟨fZ0, fZ1, fZ2, fZ3⟩, zZ⟩ := HZ.out
          have hodd := HODD.out
          have hodt := HODT.out
          go_wp2_with fail
          go_ret
          have hb := HB.out
          exact ⟨by first | rfl | simp | (simp; omega), hb⟩
        · skip
          have hne : (c1 != 0) = true := by simp [hc1]
          have hL0 : N = 0 := by
            have := HEN.out
            rw [← HEL.out, lnC_err (by rw [HEc1.out]; exact hc1)] at this
            exact this.symm
          subst hL0
          obtain ⟨⟨qM0, qM1, qM2, qM3⟩, ⟨fM0, fM1, fM2, fM3⟩, zM⟩ := HM.out
          go_wp2_with fail
          go_ret
          have hb := HB.out
          exact ⟨by first | rfl | simp, hb⟩
end Go.Proofs.Ytoenlpkphekbnaa
