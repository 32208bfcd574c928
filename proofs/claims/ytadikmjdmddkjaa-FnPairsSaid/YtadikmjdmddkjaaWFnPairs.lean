/-
  The walk of laws.FnPairs: for all arguments it returns true and leaves memory as it was. No conditions (own work).
-/
import Derived.Test.YtadikmjdmddkjaaFpE
import Derived.Test.YtadikmjdmddkjaaRdE
import Derived.Test.YtadikmjdmddkjaaAlg
import Derived.Deep.DeepCutAuto
namespace Go.Proofs.Ytadikmjdmddkjaa
open Go.ChangeShapes Go.WideShapes Go.ChangeAt Go.RowKit
set_option linter.unusedVariables false
set_option linter.unusedSimpArgs false
set_option maxRecDepth 100000

theorem big_any (a : Option Addr) (n cap : Nat) (w : World) (hn : n ≤ 9223372036854775807) : Calls Try.prog 4 #[.slice a n cap] w fun e w' => e = .returned (.bool (decide (4096 < (n : Int)))) ∧ Below w.heap.size w w' := by
  go_enter Try.func4, Try.ntmps4
  go_wp2
  go_ret
  exact ⟨rfl, by (repeat' (first | (with_reducible exact Below.refl _ _) | (with_reducible refine Below.alloc ?_ ?_ _) | (with_reducible refine Below.setCell ?_ ?_ _) | (with_reducible refine Below.drew ?_) | (with_reducible refine below_drewN ?_ _) | (with_reducible assumption) | (with_reducible refine below_after (by with_reducible assumption) ?_) | go_size))⟩
theorem row_len {k : IntKind} {w : World} {a : Option Addr} {len cap : Nat} {zs : List Int} (h : IsRow k w a len cap zs) : len ≤ 9223372036854775807 := by
  rcases h with ⟨_, hl, _⟩ | ⟨_, _, hl, hm, _⟩
  · omega
  · unfold maxLen at hm; omega
theorem sn_ok {x0 y0 x1 y1 : Int} (h : prC x0 y0 x1 y1 = 0) : (isPt (x0, y0) = true ∧ isPt (x1, y1) = true) ∧ 1 ≤ snV x0 y0 x1 y1 ∧ snV x0 y0 x1 y1 ≤ dotP (x0, y0) (x0, y0) ∧ snV x0 y0 x1 y1 ≤ dotP (x1, y1) (x1, y1) := by
  obtain ⟨⟨p0, p1⟩, hd⟩ := prC_ok h
  have hk := rdOk_of p0 p1 hd
  have := rdV_short hk (rdV_ok hk)
  unfold snV rdF
  rw [if_pos h]
  exact ⟨⟨p0, p1⟩, this⟩
theorem det_pt {x0 y0 x1 y1 : Int} (h : isPt (x0, y0) = true) (k : isPt (x1, y1) = true) : -4000000000000 ≤ detP (x0, y0) (x1, y1) ∧ detP (x0, y0) (x1, y1) ≤ 4000000000000 := by
  simp only [isPt, Bool.and_eq_true] at h k
  have a := crd_iff.1 h.1; have b := crd_iff.1 h.2; have c := crd_iff.1 k.1; have d := crd_iff.1 k.2
  have p := mul_bd (a := x0) (b := y1) (A := 1000000) (B := 1000000) (by omega) (by omega) (by omega) (by omega)
  have q := mul_bd (a := y0) (b := x1) (A := 1000000) (B := 1000000) (by omega) (by omega) (by omega) (by omega)
  unfold detP
  dsimp only
  omega
set_option maxHeartbeats 16000000 in
theorem walkFnPairs (a : Option Addr) (n cap : Nat) (zs : List Int) (w : World) (hR : IsRow .u8 w a n cap zs) :
    Calls Try.prog 3 #[.slice a n cap] w fun e w' => e = .returned (.bool true) ∧ Below w.heap.size w w' := by
  have hn := row_len hR
  have hby := byt_of_row hR
  have CB := Lib.hid (fun w => big_any a n cap w hn)
  by_cases hbig : (4096 : Int) < (n : Int)
  · clear hR hby
    have d1 : decide ((4096 : Int) < (n : Int)) = true := by simpa using hbig
    rw [d1] at CB
    go_enter Try.func3, Try.ntmps3
    go_wp2_with (first | (go_at_call 4; refine (CB.out _).mono ?_; rintro e wn ⟨rfl, hb⟩; first | (have h2 := after_call2 hb hcl hfr hlt (by ((repeat' (first | (with_reducible exact Below.refl _ _) | (with_reducible refine Below.alloc ?_ ?_ _) | (with_reducible refine Below.setCell ?_ ?_ _) | (with_reducible refine Below.drew ?_) | (with_reducible refine below_drewN ?_ _) | (with_reducible assumption) | (with_reducible refine below_after (by with_reducible assumption) ?_) | go_size)); done)); obtain ⟨hclx, hfrx, hltx, hsz⟩ := after_call hb; (try simp only [World.size_alloc, World.size_setCell, World.size_drew] at hclx hfrx hltx hsz); (try (have hszl := Nat.lt_of_succ_le hsz)); obtain ⟨hcl, hfr, hlt⟩ := h2) | (obtain ⟨hcl, hfr, hlt, hsz⟩ := after_call hb; (try simp only [World.size_alloc, World.size_setCell, World.size_drew] at hcl hfr hlt hsz))))
    go_ret
    exact ⟨rfl, by (repeat' (first | (with_reducible exact Below.refl _ _) | (with_reducible refine Below.alloc ?_ ?_ _) | (with_reducible refine Below.setCell ?_ ?_ _) | (with_reducible refine Below.drew ?_) | (with_reducible refine below_drewN ?_ _) | (with_reducible assumption) | (with_reducible refine below_after (by with_reducible assumption) ?_) | go_size))⟩
  · have d1 : decide ((4096 : Int) < (n : Int)) = false := by simpa using hbig
    rw [d1] at CB
    have CD1 := Lib.hid (fun W (hW : Below w.heap.size w W) => DrawReducePair_any a n cap W hn (hby.over hW))
    have CD2 := Lib.hid (fun W (hW : Below w.heap.size w W) => DrawIsReducedPair_any a n cap W hn (hby.over hW))
    have CD3 := Lib.hid (fun W (hW : Below w.heap.size w W) => DrawShortestNorm_any a n cap W hn (hby.over hW))
    have CD4 := Lib.hid (fun W (hW : Below w.heap.size w W) => DrawNormOf_any a n cap W hn (hby.over hW))
    have HB : Hid (Below w.heap.size w w) := Below.refl _ _
    clear hR hby d1 hbig
    go_enter Try.func3, Try.ntmps3
    go_wp2_with fail
    go_at_call 4
    refine (CB.out _).mono ?_
    rintro e w1 ⟨rfl, hb⟩
    have HB := Lib.hid (below_after hb HB.out)
    clear hb
    go_wp2_with fail
    go_at_call 5
    refine (CD1.out _ HB.out).mono ?_
    rintro e w2 ⟨x0, y0, x1, y1, rfl, hb⟩
    have HB := Lib.hid (below_after hb HB.out)
    clear hb
    go_upto_region 4 with fail
    obtain ⟨w3, hw3⟩ : ∃ wx, wx = (w2.alloc (.cells #[.int .i64 x0, .int .i64 y0] 25)).alloc (.cells #[.int .i64 x1, .int .i64 y1] 25) := ⟨_, rfl⟩
    rw [← hw3]
    obtain ⟨GA, hGA⟩ : ∃ g, w2.heap.size = g := ⟨_, rfl⟩
    have HA : Hid (Bk2 w3 GA x0 y0) := by
      have h := (bk2_new w2 x0 y0 25).below (W' := w3) (by rw [hw3]; (repeat' (first | (with_reducible exact Below.refl _ _) | (with_reducible refine Below.alloc ?_ ?_ _) | (with_reducible refine Below.setCell ?_ ?_ _) | (with_reducible refine Below.drew ?_) | (with_reducible refine below_drewN ?_ _) | (with_reducible assumption) | (with_reducible refine below_after (by with_reducible assumption) ?_) | go_size)))
      (try simp only [World.size_alloc] at h)
      rw [hGA] at h
      exact h
    have le_A : w.heap.size ≤ GA := by have := HB.out.size; omega
    obtain ⟨GM, hGM⟩ : ∃ g, w2.heap.size + 1 = g := ⟨_, rfl⟩
    have HM : Hid (Bk2 w3 GM x1 y1) := by
      have h := (bk2_new (w2.alloc (.cells #[.int .i64 x0, .int .i64 y0] 25)) x1 y1 25).below (W' := w3) (by rw [hw3]; (repeat' (first | (with_reducible exact Below.refl _ _) | (with_reducible refine Below.alloc ?_ ?_ _) | (with_reducible refine Below.setCell ?_ ?_ _) | (with_reducible refine Below.drew ?_) | (with_reducible refine below_drewN ?_ _) | (with_reducible assumption) | (with_reducible refine below_after (by with_reducible assumption) ?_) | go_size)))
      (try simp only [World.size_alloc] at h)
      rw [hGM] at h
      exact h
    have le_M : w.heap.size ≤ GM := by have := HB.out.size; omega
    have ne_M_A : GM ≠ GA := by omega
    have ne_A_M : GA ≠ GM := Ne.symm ne_M_A
    have hbn : Below w2.heap.size w2 w3 := by rw [hw3]; (repeat' (first | (with_reducible exact Below.refl _ _) | (with_reducible refine Below.alloc ?_ ?_ _) | (with_reducible refine Below.setCell ?_ ?_ _) | (with_reducible refine Below.drew ?_) | (with_reducible refine below_drewN ?_ _) | (with_reducible assumption) | (with_reducible refine below_after (by with_reducible assumption) ?_) | go_size))
    have HB := Lib.hid (below_after hbn HB.out)
    clear hbn
    rw [hGA] at hGM
    simp only [hGA]
    simp only [hGM]
    clear hw3 hGA hGM
    have I1 := Lib.hid (fun w => impl_ReducePair_any x0 y0 x1 y1 w)
    have S1 := Lib.hid (fun w => spec_ReducePair_any x0 y0 x1 y1 w)
    have hl1 := rpL_len x0 y0 x1 y1
    obtain ⟨c1, hc1⟩ : ∃ c, prC x0 y0 x1 y1 = c := ⟨_, rfl⟩
    obtain ⟨N1, hN1⟩ : ∃ c, (rpL x0 y0 x1 y1).length = c := ⟨_, rfl⟩
    obtain ⟨zs1, hz1⟩ : ∃ c, flat (rpL x0 y0 x1 y1) = c := ⟨_, rfl⟩
    unfold RetPC at I1 S1
    rw [hc1, hN1, hz1] at I1 S1
    rw [hN1] at hl1
    have HC1 := Lib.hid hc1
    have HN1 := Lib.hid hN1
    have HZ1 := Lib.hid hz1
    clear hc1 hN1 hz1
    obtain ⟨⟨qA0, qA1⟩, ⟨fA0, fA1⟩, zA⟩ := HA.out
    obtain ⟨⟨qM0, qM1⟩, ⟨fM0, fM1⟩, zM⟩ := HM.out
    go_wp2_with fail
    go_at_call 6
    refine (I1.out _).mono ?_
    rintro e w4 ⟨v1, rfl, ho1, hb⟩
    clear qA0 fA0 qA1 fA1 zA qM0 fM0 qM1 fM1 zM
    have HA := Lib.hid (HA.out.below hb)
    have HM := Lib.hid (HM.out.below hb)
    have HB := Lib.hid (below_after hb HB.out)
    clear hb
    obtain ⟨va1, vc1, rfl, _⟩ := own_viewF ho1
    have HV1 := Lib.hid ho1
    clear ho1
    obtain ⟨⟨qA0, qA1⟩, ⟨fA0, fA1⟩, zA⟩ := HA.out
    obtain ⟨⟨qM0, qM1⟩, ⟨fM0, fM1⟩, zM⟩ := HM.out
    go_wp2_with fail
    go_at_call 7
    refine (S1.out _).mono ?_
    rintro e w5 ⟨v2, rfl, ho2, hb⟩
    clear qA0 fA0 qA1 fA1 zA qM0 fM0 qM1 fM1 zM
    have HA := Lib.hid (HA.out.below hb)
    have HM := Lib.hid (HM.out.below hb)
    have HV1 := Lib.hid (HV1.out.below hb)
    have HB := Lib.hid (below_after hb HB.out)
    clear hb
    obtain ⟨va2, vc2, rfl, _⟩ := own_viewF ho2
    have HV2 := Lib.hid ho2
    clear ho2
    obtain ⟨⟨qA0, qA1⟩, ⟨fA0, fA1⟩, zA⟩ := HA.out
    obtain ⟨⟨qM0, qM1⟩, ⟨fM0, fM1⟩, zM⟩ := HM.out
    go_wp2_with fail
    go_at_call 8
    refine (points9_same _ _ _ _ _ _ _ HV1.out HV2.out (by omega)).mono ?_
    rintro e w6 ⟨rfl, hb⟩
    clear qA0 fA0 qA1 fA1 zA qM0 fM0 qM1 fM1 zM
    have HA := Lib.hid (HA.out.below hb)
    have HM := Lib.hid (HM.out.below hb)
    have HV1 := Lib.hid (HV1.out.below hb)
    have HV2 := Lib.hid (HV2.out.below hb)
    have HB := Lib.hid (below_after hb HB.out)
    clear hb
    clear HV2 I1 S1
    obtain ⟨⟨qA0, qA1⟩, ⟨fA0, fA1⟩, zA⟩ := HA.out
    obtain ⟨⟨qM0, qM1⟩, ⟨fM0, fM1⟩, zM⟩ := HM.out
    go_wp2_with fail
    go_at_call 9
    refine (CD2.out _ HB.out).mono ?_
    rintro e w7 ⟨x2, y2, x3, y3, rfl, hb⟩
    clear qA0 fA0 qA1 fA1 zA qM0 fM0 qM1 fM1 zM
    have HA := Lib.hid (HA.out.below hb)
    have HM := Lib.hid (HM.out.below hb)
    have HV1 := Lib.hid (HV1.out.below hb)
    have HB := Lib.hid (below_after hb HB.out)
    clear hb
    obtain ⟨⟨qA0, qA1⟩, ⟨fA0, fA1⟩, zA⟩ := HA.out
    obtain ⟨⟨qM0, qM1⟩, ⟨fM0, fM1⟩, zM⟩ := HM.out
    go_upto_region 9 with fail
    obtain ⟨w8, hw8⟩ : ∃ wx, wx = (w7.alloc (.cells #[.int .i64 x2, .int .i64 y2] 25)).alloc (.cells #[.int .i64 x3, .int .i64 y3] 25) := ⟨_, rfl⟩
    rw [← hw8]
    obtain ⟨GC, hGC⟩ : ∃ g, w7.heap.size = g := ⟨_, rfl⟩
    have HC : Hid (Bk2 w8 GC x2 y2) := by
      have h := (bk2_new w7 x2 y2 25).below (W' := w8) (by rw [hw8]; (repeat' (first | (with_reducible exact Below.refl _ _) | (with_reducible refine Below.alloc ?_ ?_ _) | (with_reducible refine Below.setCell ?_ ?_ _) | (with_reducible refine Below.drew ?_) | (with_reducible refine below_drewN ?_ _) | (with_reducible assumption) | (with_reducible refine below_after (by with_reducible assumption) ?_) | go_size)))
      (try simp only [World.size_alloc] at h)
      rw [hGC] at h
      exact h
    have le_C : w.heap.size ≤ GC := by have := HB.out.size; omega
    have ne_C_A : GC ≠ GA := by have := HA.out.2.2; omega
    have ne_A_C : GA ≠ GC := Ne.symm ne_C_A
    have ne_C_M : GC ≠ GM := by have := HM.out.2.2; omega
    have ne_M_C : GM ≠ GC := Ne.symm ne_C_M
    obtain ⟨GD, hGD⟩ : ∃ g, w7.heap.size + 1 = g := ⟨_, rfl⟩
    have HD : Hid (Bk2 w8 GD x3 y3) := by
      have h := (bk2_new (w7.alloc (.cells #[.int .i64 x2, .int .i64 y2] 25)) x3 y3 25).below (W' := w8) (by rw [hw8]; (repeat' (first | (with_reducible exact Below.refl _ _) | (with_reducible refine Below.alloc ?_ ?_ _) | (with_reducible refine Below.setCell ?_ ?_ _) | (with_reducible refine Below.drew ?_) | (with_reducible refine below_drewN ?_ _) | (with_reducible assumption) | (with_reducible refine below_after (by with_reducible assumption) ?_) | go_size)))
      (try simp only [World.size_alloc] at h)
      rw [hGD] at h
      exact h
    have le_D : w.heap.size ≤ GD := by have := HB.out.size; omega
    have ne_D_A : GD ≠ GA := by have := HA.out.2.2; omega
    have ne_A_D : GA ≠ GD := Ne.symm ne_D_A
    have ne_D_M : GD ≠ GM := by have := HM.out.2.2; omega
    have ne_M_D : GM ≠ GD := Ne.symm ne_D_M
    have ne_D_C : GD ≠ GC := by omega
    have ne_C_D : GC ≠ GD := Ne.symm ne_D_C
    clear qA0 fA0 qA1 fA1 zA qM0 fM0 qM1 fM1 zM
    have hbn : Below w7.heap.size w7 w8 := by rw [hw8]; (repeat' (first | (with_reducible exact Below.refl _ _) | (with_reducible refine Below.alloc ?_ ?_ _) | (with_reducible refine Below.setCell ?_ ?_ _) | (with_reducible refine Below.drew ?_) | (with_reducible refine below_drewN ?_ _) | (with_reducible assumption) | (with_reducible refine below_after (by with_reducible assumption) ?_) | go_size))
    have HA := Lib.hid (HA.out.below hbn)
    have HM := Lib.hid (HM.out.below hbn)
    have HV1 := Lib.hid (HV1.out.below hbn)
    have HB := Lib.hid (below_after hbn HB.out)
    clear hbn
    rw [hGC] at hGD
    simp only [hGC]
    simp only [hGD]
    clear hw8 hGC hGD
    have I2 := Lib.hid (fun w => impl_IsReducedPair_any x2 y2 x3 y3 w)
    have S2 := Lib.hid (fun w => spec_IsReducedPair_any x2 y2 x3 y3 w)
    generalize prC x2 y2 x3 y3 = c2 at *
    generalize rpV x2 y2 x3 y3 = b2 at *
    obtain ⟨⟨qA0, qA1⟩, ⟨fA0, fA1⟩, zA⟩ := HA.out
    obtain ⟨⟨qM0, qM1⟩, ⟨fM0, fM1⟩, zM⟩ := HM.out
    obtain ⟨⟨qC0, qC1⟩, ⟨fC0, fC1⟩, zC⟩ := HC.out
    obtain ⟨⟨qD0, qD1⟩, ⟨fD0, fD1⟩, zD⟩ := HD.out
    go_wp2_with fail
    go_at_call 10
    refine (I2.out _).mono ?_
    rintro e w9 ⟨rfl, hb⟩
    clear qA0 fA0 qA1 fA1 zA qM0 fM0 qM1 fM1 zM qC0 fC0 qC1 fC1 zC qD0 fD0 qD1 fD1 zD
    have HA := Lib.hid (HA.out.below hb)
    have HM := Lib.hid (HM.out.below hb)
    have HC := Lib.hid (HC.out.below hb)
    have HD := Lib.hid (HD.out.below hb)
    have HV1 := Lib.hid (HV1.out.below hb)
    have HB := Lib.hid (below_after hb HB.out)
    clear hb
    obtain ⟨⟨qA0, qA1⟩, ⟨fA0, fA1⟩, zA⟩ := HA.out
    obtain ⟨⟨qM0, qM1⟩, ⟨fM0, fM1⟩, zM⟩ := HM.out
    obtain ⟨⟨qC0, qC1⟩, ⟨fC0, fC1⟩, zC⟩ := HC.out
    obtain ⟨⟨qD0, qD1⟩, ⟨fD0, fD1⟩, zD⟩ := HD.out
    go_wp2_with fail
    go_at_call 11
    refine (S2.out _).mono ?_
    rintro e w10 ⟨rfl, hb⟩
    clear qA0 fA0 qA1 fA1 zA qM0 fM0 qM1 fM1 zM qC0 fC0 qC1 fC1 zC qD0 fD0 qD1 fD1 zD
    have HA := Lib.hid (HA.out.below hb)
    have HM := Lib.hid (HM.out.below hb)
    have HC := Lib.hid (HC.out.below hb)
    have HD := Lib.hid (HD.out.below hb)
    have HV1 := Lib.hid (HV1.out.below hb)
    have HB := Lib.hid (below_after hb HB.out)
    clear hb
    clear I2 S2
    clear HC HD
    obtain ⟨⟨qA0, qA1⟩, ⟨fA0, fA1⟩, zA⟩ := HA.out
    obtain ⟨⟨qM0, qM1⟩, ⟨fM0, fM1⟩, zM⟩ := HM.out
    go_wp2_with fail
    go_at_call 12
    refine (CD3.out _ HB.out).mono ?_
    rintro e w11 ⟨x4, y4, x5, y5, rfl, hb⟩
    clear qA0 fA0 qA1 fA1 zA qM0 fM0 qM1 fM1 zM
    have HA := Lib.hid (HA.out.below hb)
    have HM := Lib.hid (HM.out.below hb)
    have HV1 := Lib.hid (HV1.out.below hb)
    have HB := Lib.hid (below_after hb HB.out)
    clear hb
    obtain ⟨⟨qA0, qA1⟩, ⟨fA0, fA1⟩, zA⟩ := HA.out
    obtain ⟨⟨qM0, qM1⟩, ⟨fM0, fM1⟩, zM⟩ := HM.out
    go_upto_region 14 with fail
    obtain ⟨w12, hw12⟩ : ∃ wx, wx = (w11.alloc (.cells #[.int .i64 x4, .int .i64 y4] 25)).alloc (.cells #[.int .i64 x5, .int .i64 y5] 25) := ⟨_, rfl⟩
    rw [← hw12]
    obtain ⟨GE, hGE⟩ : ∃ g, w11.heap.size = g := ⟨_, rfl⟩
    have HE : Hid (Bk2 w12 GE x4 y4) := by
      have h := (bk2_new w11 x4 y4 25).below (W' := w12) (by rw [hw12]; (repeat' (first | (with_reducible exact Below.refl _ _) | (with_reducible refine Below.alloc ?_ ?_ _) | (with_reducible refine Below.setCell ?_ ?_ _) | (with_reducible refine Below.drew ?_) | (with_reducible refine below_drewN ?_ _) | (with_reducible assumption) | (with_reducible refine below_after (by with_reducible assumption) ?_) | go_size)))
      (try simp only [World.size_alloc] at h)
      rw [hGE] at h
      exact h
    have le_E : w.heap.size ≤ GE := by have := HB.out.size; omega
    have ne_E_A : GE ≠ GA := by have := HA.out.2.2; omega
    have ne_A_E : GA ≠ GE := Ne.symm ne_E_A
    have ne_E_M : GE ≠ GM := by have := HM.out.2.2; omega
    have ne_M_E : GM ≠ GE := Ne.symm ne_E_M
    obtain ⟨GF, hGF⟩ : ∃ g, w11.heap.size + 1 = g := ⟨_, rfl⟩
    have HF : Hid (Bk2 w12 GF x5 y5) := by
      have h := (bk2_new (w11.alloc (.cells #[.int .i64 x4, .int .i64 y4] 25)) x5 y5 25).below (W' := w12) (by rw [hw12]; (repeat' (first | (with_reducible exact Below.refl _ _) | (with_reducible refine Below.alloc ?_ ?_ _) | (with_reducible refine Below.setCell ?_ ?_ _) | (with_reducible refine Below.drew ?_) | (with_reducible refine below_drewN ?_ _) | (with_reducible assumption) | (with_reducible refine below_after (by with_reducible assumption) ?_) | go_size)))
      (try simp only [World.size_alloc] at h)
      rw [hGF] at h
      exact h
    have le_F : w.heap.size ≤ GF := by have := HB.out.size; omega
    have ne_F_A : GF ≠ GA := by have := HA.out.2.2; omega
    have ne_A_F : GA ≠ GF := Ne.symm ne_F_A
    have ne_F_M : GF ≠ GM := by have := HM.out.2.2; omega
    have ne_M_F : GM ≠ GF := Ne.symm ne_F_M
    have ne_F_E : GF ≠ GE := by omega
    have ne_E_F : GE ≠ GF := Ne.symm ne_F_E
    clear qA0 fA0 qA1 fA1 zA qM0 fM0 qM1 fM1 zM
    have hbn : Below w11.heap.size w11 w12 := by rw [hw12]; (repeat' (first | (with_reducible exact Below.refl _ _) | (with_reducible refine Below.alloc ?_ ?_ _) | (with_reducible refine Below.setCell ?_ ?_ _) | (with_reducible refine Below.drew ?_) | (with_reducible refine below_drewN ?_ _) | (with_reducible assumption) | (with_reducible refine below_after (by with_reducible assumption) ?_) | go_size))
    have HA := Lib.hid (HA.out.below hbn)
    have HM := Lib.hid (HM.out.below hbn)
    have HV1 := Lib.hid (HV1.out.below hbn)
    have HB := Lib.hid (below_after hbn HB.out)
    clear hbn
    rw [hGE] at hGF
    simp only [hGE]
    simp only [hGF]
    clear hw12 hGE hGF
    have I3 := Lib.hid (fun w => impl_ShortestNorm_any x4 y4 x5 y5 w)
    have S3 := Lib.hid (fun w => spec_ShortestNorm_any x4 y4 x5 y5 w)
    obtain ⟨c3, hc3⟩ : ∃ c, prC x4 y4 x5 y5 = c := ⟨_, rfl⟩
    obtain ⟨s3, hs3⟩ : ∃ c, snV x4 y4 x5 y5 = c := ⟨_, rfl⟩
    rw [hc3, hs3] at I3 S3
    have HC3 := Lib.hid hc3
    have HS3 := Lib.hid hs3
    clear hc3 hs3
    obtain ⟨⟨qA0, qA1⟩, ⟨fA0, fA1⟩, zA⟩ := HA.out
    obtain ⟨⟨qM0, qM1⟩, ⟨fM0, fM1⟩, zM⟩ := HM.out
    obtain ⟨⟨qE0, qE1⟩, ⟨fE0, fE1⟩, zE⟩ := HE.out
    obtain ⟨⟨qF0, qF1⟩, ⟨fF0, fF1⟩, zF⟩ := HF.out
    go_wp2_with fail
    go_at_call 13
    refine (I3.out _).mono ?_
    rintro e w13 ⟨rfl, hb⟩
    clear qA0 fA0 qA1 fA1 zA qM0 fM0 qM1 fM1 zM qE0 fE0 qE1 fE1 zE qF0 fF0 qF1 fF1 zF
    have HA := Lib.hid (HA.out.below hb)
    have HM := Lib.hid (HM.out.below hb)
    have HE := Lib.hid (HE.out.below hb)
    have HF := Lib.hid (HF.out.below hb)
    have HV1 := Lib.hid (HV1.out.below hb)
    have HB := Lib.hid (below_after hb HB.out)
    clear hb
    obtain ⟨⟨qA0, qA1⟩, ⟨fA0, fA1⟩, zA⟩ := HA.out
    obtain ⟨⟨qM0, qM1⟩, ⟨fM0, fM1⟩, zM⟩ := HM.out
    obtain ⟨⟨qE0, qE1⟩, ⟨fE0, fE1⟩, zE⟩ := HE.out
    obtain ⟨⟨qF0, qF1⟩, ⟨fF0, fF1⟩, zF⟩ := HF.out
    go_wp2_with fail
    go_at_call 14
    refine (S3.out _).mono ?_
    rintro e w14 ⟨rfl, hb⟩
    clear qA0 fA0 qA1 fA1 zA qM0 fM0 qM1 fM1 zM qE0 fE0 qE1 fE1 zE qF0 fF0 qF1 fF1 zF
    have HA := Lib.hid (HA.out.below hb)
    have HM := Lib.hid (HM.out.below hb)
    have HE := Lib.hid (HE.out.below hb)
    have HF := Lib.hid (HF.out.below hb)
    have HV1 := Lib.hid (HV1.out.below hb)
    have HB := Lib.hid (below_after hb HB.out)
    clear hb
    clear I3 S3
    obtain ⟨⟨qA0, qA1⟩, ⟨fA0, fA1⟩, zA⟩ := HA.out
    obtain ⟨⟨qM0, qM1⟩, ⟨fM0, fM1⟩, zM⟩ := HM.out
    obtain ⟨⟨qE0, qE1⟩, ⟨fE0, fE1⟩, zE⟩ := HE.out
    obtain ⟨⟨qF0, qF1⟩, ⟨fF0, fF1⟩, zF⟩ := HF.out
    go_wp2_with fail
    go_at_call 15
    refine (CD4.out _ HB.out).mono ?_
    rintro e w15 ⟨x6, y6, rfl, hb⟩
    clear qA0 fA0 qA1 fA1 zA qM0 fM0 qM1 fM1 zM qE0 fE0 qE1 fE1 zE qF0 fF0 qF1 fF1 zF
    have HA := Lib.hid (HA.out.below hb)
    have HM := Lib.hid (HM.out.below hb)
    have HE := Lib.hid (HE.out.below hb)
    have HF := Lib.hid (HF.out.below hb)
    have HV1 := Lib.hid (HV1.out.below hb)
    have HB := Lib.hid (below_after hb HB.out)
    clear hb
    obtain ⟨⟨qA0, qA1⟩, ⟨fA0, fA1⟩, zA⟩ := HA.out
    obtain ⟨⟨qM0, qM1⟩, ⟨fM0, fM1⟩, zM⟩ := HM.out
    obtain ⟨⟨qE0, qE1⟩, ⟨fE0, fE1⟩, zE⟩ := HE.out
    obtain ⟨⟨qF0, qF1⟩, ⟨fF0, fF1⟩, zF⟩ := HF.out
    go_upto_region 19 with fail
    obtain ⟨GN, hGN⟩ : ∃ g, w15.heap.size = g := ⟨_, rfl⟩
    obtain ⟨w16, hw16⟩ : ∃ wx, wx = w15.alloc (.cells #[.int .i64 x6, .int .i64 y6] 25) := ⟨_, rfl⟩
    rw [← hw16, hGN]
    have HN : Hid (Bk2 w16 GN x6 y6) := by rw [hw16, ← hGN]; exact bk2_new w15 x6 y6 _
    have le_N : w.heap.size ≤ GN := by rw [← hGN]; exact HB.out.size
    have ne_N_A : GN ≠ GA := by have := HA.out.2.2; omega
    have ne_A_N : GA ≠ GN := Ne.symm ne_N_A
    have ne_N_M : GN ≠ GM := by have := HM.out.2.2; omega
    have ne_M_N : GM ≠ GN := Ne.symm ne_N_M
    have ne_N_E : GN ≠ GE := by have := HE.out.2.2; omega
    have ne_E_N : GE ≠ GN := Ne.symm ne_N_E
    have ne_N_F : GN ≠ GF := by have := HF.out.2.2; omega
    have ne_F_N : GF ≠ GN := Ne.symm ne_N_F
    clear qA0 fA0 qA1 fA1 zA qM0 fM0 qM1 fM1 zM qE0 fE0 qE1 fE1 zE qF0 fF0 qF1 fF1 zF
    have HA := Lib.hid (HA.out.below ((Below.refl _ _).alloc (Nat.le_refl _) (.cells #[.int .i64 x6, .int .i64 y6] 25)))
    have HM := Lib.hid (HM.out.below ((Below.refl _ _).alloc (Nat.le_refl _) (.cells #[.int .i64 x6, .int .i64 y6] 25)))
    have HE := Lib.hid (HE.out.below ((Below.refl _ _).alloc (Nat.le_refl _) (.cells #[.int .i64 x6, .int .i64 y6] 25)))
    have HF := Lib.hid (HF.out.below ((Below.refl _ _).alloc (Nat.le_refl _) (.cells #[.int .i64 x6, .int .i64 y6] 25)))
    have HV1 := Lib.hid (HV1.out.below ((Below.refl _ _).alloc (Nat.le_refl _) (.cells #[.int .i64 x6, .int .i64 y6] 25)))
    have HB := Lib.hid (Below.alloc HB.out HB.out.size (.cells #[.int .i64 x6, .int .i64 y6] 25))
    rw [← hw16] at HA HM HE HF HV1 HB
    clear hw16 hGN
    have I4 := Lib.hid (fun w => impl_NormOf_any x6 y6 w)
    have S4 := Lib.hid (fun w => spec_NormOf_any x6 y6 w)
    generalize nmV x6 y6 = n6 at *
    generalize nmC x6 y6 = c6 at *
    obtain ⟨⟨qA0, qA1⟩, ⟨fA0, fA1⟩, zA⟩ := HA.out
    obtain ⟨⟨qM0, qM1⟩, ⟨fM0, fM1⟩, zM⟩ := HM.out
    obtain ⟨⟨qE0, qE1⟩, ⟨fE0, fE1⟩, zE⟩ := HE.out
    obtain ⟨⟨qF0, qF1⟩, ⟨fF0, fF1⟩, zF⟩ := HF.out
    obtain ⟨⟨qN0, qN1⟩, ⟨fN0, fN1⟩, zN⟩ := HN.out
    go_wp2_with fail
    go_at_call 16
    refine (I4.out _).mono ?_
    rintro e w17 ⟨rfl, hb⟩
    clear qA0 fA0 qA1 fA1 zA qM0 fM0 qM1 fM1 zM qE0 fE0 qE1 fE1 zE qF0 fF0 qF1 fF1 zF qN0 fN0 qN1 fN1 zN
    have HA := Lib.hid (HA.out.below hb)
    have HM := Lib.hid (HM.out.below hb)
    have HE := Lib.hid (HE.out.below hb)
    have HF := Lib.hid (HF.out.below hb)
    have HN := Lib.hid (HN.out.below hb)
    have HV1 := Lib.hid (HV1.out.below hb)
    have HB := Lib.hid (below_after hb HB.out)
    clear hb
    obtain ⟨⟨qA0, qA1⟩, ⟨fA0, fA1⟩, zA⟩ := HA.out
    obtain ⟨⟨qM0, qM1⟩, ⟨fM0, fM1⟩, zM⟩ := HM.out
    obtain ⟨⟨qE0, qE1⟩, ⟨fE0, fE1⟩, zE⟩ := HE.out
    obtain ⟨⟨qF0, qF1⟩, ⟨fF0, fF1⟩, zF⟩ := HF.out
    obtain ⟨⟨qN0, qN1⟩, ⟨fN0, fN1⟩, zN⟩ := HN.out
    go_wp2_with fail
    go_at_call 17
    refine (S4.out _).mono ?_
    rintro e w18 ⟨rfl, hb⟩
    clear qA0 fA0 qA1 fA1 zA qM0 fM0 qM1 fM1 zM qE0 fE0 qE1 fE1 zE qF0 fF0 qF1 fF1 zF qN0 fN0 qN1 fN1 zN
    have HA := Lib.hid (HA.out.below hb)
    have HM := Lib.hid (HM.out.below hb)
    have HE := Lib.hid (HE.out.below hb)
    have HF := Lib.hid (HF.out.below hb)
    have HN := Lib.hid (HN.out.below hb)
    have HV1 := Lib.hid (HV1.out.below hb)
    have HB := Lib.hid (below_after hb HB.out)
    clear hb
    clear I4 S4
    clear HN
    by_cases h3 : c3 = 0
    · skip
      subst h3
      obtain ⟨⟨e0, e1⟩, e2, e3, e4⟩ := sn_ok HC3.out
      rw [HS3.out] at e2 e3 e4
      have J1 := Lib.hid (fun w => impl_NormOf_any x4 y4 w)
      have J2 := Lib.hid (fun w => impl_NormOf_any x5 y5 w)
      unfold nmV nmC at J1 J2
      rw [e0, if_pos rfl, if_pos rfl] at J1
      rw [e1, if_pos rfl, if_pos rfl] at J2
      generalize dotP (x4, y4) (x4, y4) = m4 at *
      generalize dotP (x5, y5) (x5, y5) = m5 at *
      have g2 : ¬ s3 < 1 := by omega
      have g3 : ¬ m4 < s3 := by omega
      have g4 : ¬ m5 < s3 := by omega
      clear e0 e1 e2 e3 e4
      obtain ⟨⟨qA0, qA1⟩, ⟨fA0, fA1⟩, zA⟩ := HA.out
      obtain ⟨⟨qM0, qM1⟩, ⟨fM0, fM1⟩, zM⟩ := HM.out
      obtain ⟨⟨qE0, qE1⟩, ⟨fE0, fE1⟩, zE⟩ := HE.out
      obtain ⟨⟨qF0, qF1⟩, ⟨fF0, fF1⟩, zF⟩ := HF.out
      go_wp2_with fail
      go_at_call 16
      refine (J1.out _).mono ?_
      rintro e w19 ⟨rfl, hb⟩
      clear qA0 fA0 qA1 fA1 zA qM0 fM0 qM1 fM1 zM qE0 fE0 qE1 fE1 zE qF0 fF0 qF1 fF1 zF
      have HA := Lib.hid (HA.out.below hb)
      have HM := Lib.hid (HM.out.below hb)
      have HE := Lib.hid (HE.out.below hb)
      have HF := Lib.hid (HF.out.below hb)
      have HV1 := Lib.hid (HV1.out.below hb)
      have HB := Lib.hid (below_after hb HB.out)
      clear hb
      obtain ⟨⟨qA0, qA1⟩, ⟨fA0, fA1⟩, zA⟩ := HA.out
      obtain ⟨⟨qM0, qM1⟩, ⟨fM0, fM1⟩, zM⟩ := HM.out
      obtain ⟨⟨qE0, qE1⟩, ⟨fE0, fE1⟩, zE⟩ := HE.out
      obtain ⟨⟨qF0, qF1⟩, ⟨fF0, fF1⟩, zF⟩ := HF.out
      go_wp2_with fail
      go_at_call 16
      refine (J2.out _).mono ?_
      rintro e w20 ⟨rfl, hb⟩
      clear qA0 fA0 qA1 fA1 zA qM0 fM0 qM1 fM1 zM qE0 fE0 qE1 fE1 zE qF0 fF0 qF1 fF1 zF
      have HA := Lib.hid (HA.out.below hb)
      have HM := Lib.hid (HM.out.below hb)
      have HE := Lib.hid (HE.out.below hb)
      have HF := Lib.hid (HF.out.below hb)
      have HV1 := Lib.hid (HV1.out.below hb)
      have HB := Lib.hid (below_after hb HB.out)
      clear hb
      clear HE HF
      by_cases h1 : c1 = 0
      · subst h1
        obtain ⟨⟨k0, k1⟩, hd⟩ := prC_ok HC1.out
        have hk := rdOk_of k0 k1 hd
        have hko := rdV_ok hk
        have hred := rdV_red hk
        have hdet := rdV_det ((x0, y0), (x1, y1))
        obtain ⟨⟨⟨p0, p1⟩, ⟨q0, q1⟩⟩, hV⟩ : ∃ V, rdV ((x0, y0), (x1, y1)) = V := ⟨_, rfl⟩
        have hrl : rpL x0 y0 x1 y1 = [(p0, p1), (q0, q1)] := by unfold rpL; rw [if_pos HC1.out, hV]
        have hN := HN1.out
        have hZ := HZ1.out
        rw [hrl] at hN hZ
        rw [hV] at hred hdet hko
        dsimp only at hred hdet
        have hN : N1 = 2 := hN.symm
        have hZ : zs1 = [p0, p1, q0, q1] := hZ.symm
        subst hN
        subst hZ
        obtain ⟨b1, b2'⟩ := det_pt k0 k1
        have ID := Lib.hid (fun w => impl_DeterminantOf_yes x0 y0 x1 y1 w k0 k1)
        obtain ⟨D1, hD1⟩ : ∃ D, detP (x0, y0) (x1, y1) = D := ⟨_, rfl⟩
        rw [hD1] at ID hd hdet b1 b2'
        have IR := Lib.hid (fun w => impl_IsReducedPair_any p0 p1 q0 q1 w)
        have IP := Lib.hid (fun w => isPoint_any p0 p1 w)
        have IQ := Lib.hid (fun w => isPoint_any q0 q1 w)
        have hdk := hko.det
        dsimp only at hdk
        obtain ⟨xa, xc, hxe, hxf⟩ := own_viewF HV1.out
        simp only [Value.slice.injEq] at hxe
        obtain ⟨rfl, _, rfl⟩ := hxe
        obtain ⟨gv, rfl, _, hgv, hcv, _⟩ := hxf (by omega)
        have HCV : Hid (∀ W, Below w20.heap.size w20 W → W.cell? ⟨gv, 0, none⟩ = some (.int .i64 p0) ∧ W.cell? ⟨gv, 1, none⟩ = some (.int .i64 p1) ∧ W.cell? ⟨gv, 2, none⟩ = some (.int .i64 q0) ∧ W.cell? ⟨gv, 3, none⟩ = some (.int .i64 q1)) := fun W hW => ⟨(hW.cell (p := ⟨gv, 0, none⟩) hgv).trans (hcv 0 (by omega)), (hW.cell (p := ⟨gv, 1, none⟩) hgv).trans (hcv 1 (by omega)), (hW.cell (p := ⟨gv, 2, none⟩) hgv).trans (hcv 2 (by omega)), (hW.cell (p := ⟨gv, 3, none⟩) hgv).trans (hcv 3 (by omega))⟩
        have HBW0 : Hid (Below w20.heap.size w20 w20) := Below.refl _ _
        clear hk hko hV hrl hD1 hxf hcv k0 k1 hgv
        obtain ⟨⟨qA0, qA1⟩, ⟨fA0, fA1⟩, zA⟩ := HA.out
        obtain ⟨⟨qM0, qM1⟩, ⟨fM0, fM1⟩, zM⟩ := HM.out
        go_wp2_with fail
        go_at_call 18
        refine (ID.out _).mono ?_
        rintro e w21 ⟨rfl, hb⟩
        clear qA0 fA0 qA1 fA1 zA qM0 fM0 qM1 fM1 zM
        have HA := Lib.hid (HA.out.below hb)
        have HM := Lib.hid (HM.out.below hb)
        have HV1 := Lib.hid (HV1.out.below hb)
        have HBQ : Hid (Below w20.heap.size w20 _) := hb
        have HB := Lib.hid (below_after hb HB.out)
        clear hb
        clear HBW0
        cases hp : isPt (p0, p1)
        · skip
          have hno : (isPt (p0, p1) && isPt (q0, q1)) = false := by rw [hp]; rfl
          have IE := Lib.hid (fun w => impl_DeterminantOf_no p0 p1 q0 q1 w hno)
          have hpc : prC p0 p1 q0 q1 = 1 := by unfold prC; rw [hno]; rfl
          have hpv : rpV p0 p1 q0 q1 = false := by unfold rpV; rw [if_neg (by rw [hpc]; decide)]
          rw [hpc, hpv] at IR
          rw [hp] at IP
          clear hpc hpv hdk hred hp hd hdet hno
          have HBZ : Hid (Below w20.heap.size w20 w21) := HBQ.out
          have HCW : Hid (∀ W, Below w21.heap.size w21 W → W.cell? ⟨gv, 0, none⟩ = some (.int .i64 p0) ∧ W.cell? ⟨gv, 1, none⟩ = some (.int .i64 p1) ∧ W.cell? ⟨gv, 2, none⟩ = some (.int .i64 q0) ∧ W.cell? ⟨gv, 3, none⟩ = some (.int .i64 q1)) := fun W hW => HCV.out W (below_after hW HBZ.out)
          have HXX : Hid (∀ W, Below w21.heap.size w21 W → Bk2 W GA x0 y0 ∧ Bk2 W GM x1 y1) := fun W hW => ⟨HA.out.below hW, HM.out.below hW⟩
          go_wp2_with fail
          refine wp_region_held_drew (S := fun W => Below w21.heap.size w21 W) (by kernel_rfl) ?_ (fun hHeld => ?_); focus ((try dsimp only); exact (Below.refl _ _).drew)
          have HA := Lib.hid (HA.out.below (Below.drew (Below.refl _ _)))
          have HM := Lib.hid (HM.out.below (Below.drew (Below.refl _ _)))
          have HV1 := Lib.hid (HV1.out.below (Below.drew (Below.refl _ _)))
          have hHeld : Below w21.heap.size w21 _ := hHeld
          obtain ⟨wD21, hwD21⟩ : ∃ wD, w21.drew = wD := ⟨_, rfl⟩
          rw [hwD21] at hHeld HA HM HV1 ⊢
          clear hwD21
          (refine wpAnyH_take (i := 0) (v := ?_) rfl (by kernel_rfl) (by kernel_rfl) (by kernel_rfl) (fun _ _ _ h => h) (Or.inl ⟨rfl, ?_⟩) (by assumption) ?_; rotate_left; focus (intro W hSw; (try dsimp only at hSw); have hxx := HXX.out _ hSw; obtain ⟨hxA, hxM⟩ := hxx; obtain ⟨l0, l1, l2, l3⟩ := HCW.out _ hSw; have hgw := World.block_lt_of_cell? _ _ l0; obtain ⟨⟨iA0, iA1⟩, _, _⟩ := hxA; obtain ⟨⟨iM0, iM1⟩, _, _⟩ := hxM; go_simp; try (with_reducible rfl))); (try simp only [Act.put, List.getElem_toArray, List.getElem_cons_succ, List.getElem_cons_zero, List.setIfInBounds_toArray, List.set_cons_zero, List.set_cons_succ])
          (refine wpAnyH_take (i := 1) (v := ?_) rfl (by kernel_rfl) (by kernel_rfl) (by kernel_rfl) (fun _ _ _ h => h) (Or.inl ⟨rfl, ?_⟩) (by assumption) ?_; rotate_left; focus (intro W hSw; (try dsimp only at hSw); have hxx := HXX.out _ hSw; obtain ⟨hxA, hxM⟩ := hxx; obtain ⟨l0, l1, l2, l3⟩ := HCW.out _ hSw; have hgw := World.block_lt_of_cell? _ _ l0; obtain ⟨⟨iA0, iA1⟩, _, _⟩ := hxA; obtain ⟨⟨iM0, iM1⟩, _, _⟩ := hxM; go_simp; try (with_reducible rfl))); (try simp only [Act.put, List.getElem_toArray, List.getElem_cons_succ, List.getElem_cons_zero, List.setIfInBounds_toArray, List.set_cons_zero, List.set_cons_succ])
          (refine wpAnyH_take (i := 2) (v := ?_) rfl (by kernel_rfl) (by kernel_rfl) (by kernel_rfl) (fun _ _ _ h => h) (Or.inl ⟨rfl, ?_⟩) (by assumption) ?_; rotate_left; focus (intro W hSw; (try dsimp only at hSw); have hxx := HXX.out _ hSw; obtain ⟨hxA, hxM⟩ := hxx; obtain ⟨l0, l1, l2, l3⟩ := HCW.out _ hSw; have hgw := World.block_lt_of_cell? _ _ l0; obtain ⟨⟨iA0, iA1⟩, _, _⟩ := hxA; obtain ⟨⟨iM0, iM1⟩, _, _⟩ := hxM; go_simp; try (with_reducible rfl))); (try simp only [Act.put, List.getElem_toArray, List.getElem_cons_succ, List.getElem_cons_zero, List.setIfInBounds_toArray, List.set_cons_zero, List.set_cons_succ])
          (refine wpAnyH_take (i := 3) (v := ?_) rfl (by kernel_rfl) (by kernel_rfl) (by kernel_rfl) (fun _ _ _ h => h) (Or.inl ⟨rfl, ?_⟩) (by assumption) ?_; rotate_left; focus (intro W hSw; (try dsimp only at hSw); have hxx := HXX.out _ hSw; obtain ⟨hxA, hxM⟩ := hxx; obtain ⟨l0, l1, l2, l3⟩ := HCW.out _ hSw; have hgw := World.block_lt_of_cell? _ _ l0; obtain ⟨⟨iA0, iA1⟩, _, _⟩ := hxA; obtain ⟨⟨iM0, iM1⟩, _, _⟩ := hxM; go_simp; try (with_reducible rfl))); (try simp only [Act.put, List.getElem_toArray, List.getElem_cons_succ, List.getElem_cons_zero, List.setIfInBounds_toArray, List.set_cons_zero, List.set_cons_succ])
          (refine wpAnyH_take (i := 4) (v := ?_) rfl (by kernel_rfl) (by kernel_rfl) (by kernel_rfl) (fun _ _ _ h => h) (Or.inl ⟨rfl, ?_⟩) (by assumption) ?_; rotate_left; focus (intro W hSw; (try dsimp only at hSw); have hxx := HXX.out _ hSw; obtain ⟨hxA, hxM⟩ := hxx; obtain ⟨l0, l1, l2, l3⟩ := HCW.out _ hSw; have hgw := World.block_lt_of_cell? _ _ l0; obtain ⟨⟨iA0, iA1⟩, _, _⟩ := hxA; obtain ⟨⟨iM0, iM1⟩, _, _⟩ := hxM; go_simp; try (with_reducible rfl))); (try simp only [Act.put, List.getElem_toArray, List.getElem_cons_succ, List.getElem_cons_zero, List.setIfInBounds_toArray, List.set_cons_zero, List.set_cons_succ])
          (refine wpAnyH_take (i := 5) (v := ?_) rfl (by kernel_rfl) (by kernel_rfl) (by kernel_rfl) (fun _ _ _ h => h) (Or.inl ⟨rfl, ?_⟩) (by assumption) ?_; rotate_left; focus (intro W hSw; (try dsimp only at hSw); have hxx := HXX.out _ hSw; obtain ⟨hxA, hxM⟩ := hxx; obtain ⟨l0, l1, l2, l3⟩ := HCW.out _ hSw; have hgw := World.block_lt_of_cell? _ _ l0; obtain ⟨⟨iA0, iA1⟩, _, _⟩ := hxA; obtain ⟨⟨iM0, iM1⟩, _, _⟩ := hxM; go_simp; try (with_reducible rfl))); (try simp only [Act.put, List.getElem_toArray, List.getElem_cons_succ, List.getElem_cons_zero, List.setIfInBounds_toArray, List.set_cons_zero, List.set_cons_succ])
          refine wpAnyH_ready (rs := [6]) (by kernel_rfl) (by simp) ?_; refine AllReadyH.cons rfl (fun K hK => ?_) AllReadyH.nil
          go_simp; (go_at_call 18; refine (IE.out _).mono ?_; rintro en ywr21x0 ⟨rfl, hb2⟩); have HA := Lib.hid (HA.out.below hb2); have HM := Lib.hid (HM.out.below hb2); have HV1 := Lib.hid (HV1.out.below hb2); refine hK.out _ _ (below_after hb2 hHeld) (fun hHeld2 => ?_); clear hb2; (clear hHeld; rename _ => hHeld; clear hK K; have hHeld : Below w21.heap.size w21 _ := hHeld); (try simp only [Act.put, List.getElem_toArray, List.getElem_cons_succ, List.getElem_cons_zero, List.setIfInBounds_toArray, List.set_cons_zero, List.set_cons_succ])
          (refine wpAnyH_take (i := 7) (v := ?_) rfl (by kernel_rfl) (by kernel_rfl) (by kernel_rfl) (fun _ _ _ h => h) (Or.inl ⟨rfl, ?_⟩) (by assumption) ?_; rotate_left; focus (intro W hSw; (try dsimp only at hSw); have hxx := HXX.out _ hSw; obtain ⟨hxA, hxM⟩ := hxx; obtain ⟨l0, l1, l2, l3⟩ := HCW.out _ hSw; have hgw := World.block_lt_of_cell? _ _ l0; obtain ⟨⟨iA0, iA1⟩, _, _⟩ := hxA; obtain ⟨⟨iM0, iM1⟩, _, _⟩ := hxM; go_simp; try (with_reducible rfl))); (try simp only [Act.put, List.getElem_toArray, List.getElem_cons_succ, List.getElem_cons_zero, List.setIfInBounds_toArray, List.set_cons_zero, List.set_cons_succ])
          (refine wpAnyH_take (i := 8) (v := ?_) rfl (by kernel_rfl) (by kernel_rfl) (by kernel_rfl) (fun _ _ _ h => h) (Or.inl ⟨rfl, ?_⟩) (by assumption) ?_; rotate_left; focus (intro W hSw; (try dsimp only at hSw); have hxx := HXX.out _ hSw; obtain ⟨hxA, hxM⟩ := hxx; obtain ⟨l0, l1, l2, l3⟩ := HCW.out _ hSw; have hgw := World.block_lt_of_cell? _ _ l0; obtain ⟨⟨iA0, iA1⟩, _, _⟩ := hxA; obtain ⟨⟨iM0, iM1⟩, _, _⟩ := hxM; go_simp; try (with_reducible rfl))); (try simp only [Act.put, List.getElem_toArray, List.getElem_cons_succ, List.getElem_cons_zero, List.setIfInBounds_toArray, List.set_cons_zero, List.set_cons_succ])
          (refine wpAnyH_take (i := 9) (v := ?_) rfl (by kernel_rfl) (by kernel_rfl) (by kernel_rfl) (fun _ _ _ h => h) (Or.inl ⟨rfl, ?_⟩) (by assumption) ?_; rotate_left; focus (intro W hSw; (try dsimp only at hSw); have hxx := HXX.out _ hSw; obtain ⟨hxA, hxM⟩ := hxx; obtain ⟨l0, l1, l2, l3⟩ := HCW.out _ hSw; have hgw := World.block_lt_of_cell? _ _ l0; obtain ⟨⟨iA0, iA1⟩, _, _⟩ := hxA; obtain ⟨⟨iM0, iM1⟩, _, _⟩ := hxM; go_simp; try (with_reducible rfl))); (try simp only [Act.put, List.getElem_toArray, List.getElem_cons_succ, List.getElem_cons_zero, List.setIfInBounds_toArray, List.set_cons_zero, List.set_cons_succ])
          (refine wpAnyH_take (i := 10) (v := ?_) rfl (by kernel_rfl) (by kernel_rfl) (by kernel_rfl) (fun _ _ _ h => h) (Or.inl ⟨rfl, ?_⟩) (by assumption) ?_; rotate_left; focus (intro W hSw; (try dsimp only at hSw); have hxx := HXX.out _ hSw; obtain ⟨hxA, hxM⟩ := hxx; obtain ⟨l0, l1, l2, l3⟩ := HCW.out _ hSw; have hgw := World.block_lt_of_cell? _ _ l0; obtain ⟨⟨iA0, iA1⟩, _, _⟩ := hxA; obtain ⟨⟨iM0, iM1⟩, _, _⟩ := hxM; go_simp; try (with_reducible rfl))); (try simp only [Act.put, List.getElem_toArray, List.getElem_cons_succ, List.getElem_cons_zero, List.setIfInBounds_toArray, List.set_cons_zero, List.set_cons_succ])
          (refine wpAnyH_take (i := 11) (v := ?_) rfl (by kernel_rfl) (by kernel_rfl) (by kernel_rfl) (fun _ _ _ h => h) (Or.inl ⟨rfl, ?_⟩) (by assumption) ?_; rotate_left; focus (intro W hSw; (try dsimp only at hSw); have hxx := HXX.out _ hSw; obtain ⟨hxA, hxM⟩ := hxx; obtain ⟨l0, l1, l2, l3⟩ := HCW.out _ hSw; have hgw := World.block_lt_of_cell? _ _ l0; obtain ⟨⟨iA0, iA1⟩, _, _⟩ := hxA; obtain ⟨⟨iM0, iM1⟩, _, _⟩ := hxM; go_simp; try (with_reducible rfl))); (try simp only [Act.put, List.getElem_toArray, List.getElem_cons_succ, List.getElem_cons_zero, List.setIfInBounds_toArray, List.set_cons_zero, List.set_cons_succ])
          refine wpAnyH_done (by kernel_rfl) ?_ _
          have hHeld0 := hHeld
          have HB := Lib.hid (HB.out.trans (hHeld.mono HB.out.size))
          clear hHeld HXX
          have HBZ := Lib.hid (below_after hHeld0 HBZ.out)
          clear hHeld0 HCW
          have HCW : Hid (∀ W, Below ywr21x0.heap.size ywr21x0 W → W.cell? ⟨gv, 0, none⟩ = some (.int .i64 p0) ∧ W.cell? ⟨gv, 1, none⟩ = some (.int .i64 p1) ∧ W.cell? ⟨gv, 2, none⟩ = some (.int .i64 q0) ∧ W.cell? ⟨gv, 3, none⟩ = some (.int .i64 q1)) := fun W hW => HCV.out W (below_after hW HBZ.out)
          have HXX : Hid (∀ W, Below ywr21x0.heap.size ywr21x0 W → Bk2 W GA x0 y0 ∧ Bk2 W GM x1 y1) := fun W hW => ⟨HA.out.below hW, HM.out.below hW⟩
          go_wp2_with fail
          refine wp_region_held_drew (S := fun W => Below ywr21x0.heap.size ywr21x0 W) (by kernel_rfl) ?_ (fun hHeld => ?_); focus ((try dsimp only); exact (Below.refl _ _).drew)
          have HA := Lib.hid (HA.out.below (Below.drew (Below.refl _ _)))
          have HM := Lib.hid (HM.out.below (Below.drew (Below.refl _ _)))
          have HV1 := Lib.hid (HV1.out.below (Below.drew (Below.refl _ _)))
          have hHeld : Below ywr21x0.heap.size ywr21x0 _ := hHeld
          obtain ⟨wD71, hwD71⟩ : ∃ wD, ywr21x0.drew = wD := ⟨_, rfl⟩
          rw [hwD71] at hHeld HA HM HV1 ⊢
          clear hwD71
          (refine wpAnyH_take (i := 0) (v := ?_) rfl (by kernel_rfl) (by kernel_rfl) (by kernel_rfl) (fun _ _ _ h => h) (Or.inl ⟨rfl, ?_⟩) (by assumption) ?_; rotate_left; focus (intro W hSw; (try dsimp only at hSw); have hxx := HXX.out _ hSw; obtain ⟨hxA, hxM⟩ := hxx; obtain ⟨l0, l1, l2, l3⟩ := HCW.out _ hSw; have hgw := World.block_lt_of_cell? _ _ l0; obtain ⟨⟨iA0, iA1⟩, _, _⟩ := hxA; obtain ⟨⟨iM0, iM1⟩, _, _⟩ := hxM; go_simp; try (with_reducible rfl))); (try simp only [Act.put, List.getElem_toArray, List.getElem_cons_succ, List.getElem_cons_zero, List.setIfInBounds_toArray, List.set_cons_zero, List.set_cons_succ])
          (refine wpAnyH_take (i := 1) (v := ?_) rfl (by kernel_rfl) (by kernel_rfl) (by kernel_rfl) (fun _ _ _ h => h) (Or.inl ⟨rfl, ?_⟩) (by assumption) ?_; rotate_left; focus (intro W hSw; (try dsimp only at hSw); have hxx := HXX.out _ hSw; obtain ⟨hxA, hxM⟩ := hxx; obtain ⟨l0, l1, l2, l3⟩ := HCW.out _ hSw; have hgw := World.block_lt_of_cell? _ _ l0; obtain ⟨⟨iA0, iA1⟩, _, _⟩ := hxA; obtain ⟨⟨iM0, iM1⟩, _, _⟩ := hxM; go_simp; try (with_reducible rfl))); (try simp only [Act.put, List.getElem_toArray, List.getElem_cons_succ, List.getElem_cons_zero, List.setIfInBounds_toArray, List.set_cons_zero, List.set_cons_succ])
          (refine wpAnyH_take (i := 2) (v := ?_) rfl (by kernel_rfl) (by kernel_rfl) (by kernel_rfl) (fun _ _ _ h => h) (Or.inl ⟨rfl, ?_⟩) (by assumption) ?_; rotate_left; focus (intro W hSw; (try dsimp only at hSw); have hxx := HXX.out _ hSw; obtain ⟨hxA, hxM⟩ := hxx; obtain ⟨l0, l1, l2, l3⟩ := HCW.out _ hSw; have hgw := World.block_lt_of_cell? _ _ l0; obtain ⟨⟨iA0, iA1⟩, _, _⟩ := hxA; obtain ⟨⟨iM0, iM1⟩, _, _⟩ := hxM; go_simp; try (with_reducible rfl))); (try simp only [Act.put, List.getElem_toArray, List.getElem_cons_succ, List.getElem_cons_zero, List.setIfInBounds_toArray, List.set_cons_zero, List.set_cons_succ])
          (refine wpAnyH_take (i := 3) (v := ?_) rfl (by kernel_rfl) (by kernel_rfl) (by kernel_rfl) (fun _ _ _ h => h) (Or.inl ⟨rfl, ?_⟩) (by assumption) ?_; rotate_left; focus (intro W hSw; (try dsimp only at hSw); have hxx := HXX.out _ hSw; obtain ⟨hxA, hxM⟩ := hxx; obtain ⟨l0, l1, l2, l3⟩ := HCW.out _ hSw; have hgw := World.block_lt_of_cell? _ _ l0; obtain ⟨⟨iA0, iA1⟩, _, _⟩ := hxA; obtain ⟨⟨iM0, iM1⟩, _, _⟩ := hxM; go_simp; try (with_reducible rfl))); (try simp only [Act.put, List.getElem_toArray, List.getElem_cons_succ, List.getElem_cons_zero, List.setIfInBounds_toArray, List.set_cons_zero, List.set_cons_succ])
          (refine wpAnyH_take (i := 4) (v := ?_) rfl (by kernel_rfl) (by kernel_rfl) (by kernel_rfl) (fun _ _ _ h => h) (Or.inl ⟨rfl, ?_⟩) (by assumption) ?_; rotate_left; focus (intro W hSw; (try dsimp only at hSw); have hxx := HXX.out _ hSw; obtain ⟨hxA, hxM⟩ := hxx; obtain ⟨l0, l1, l2, l3⟩ := HCW.out _ hSw; have hgw := World.block_lt_of_cell? _ _ l0; obtain ⟨⟨iA0, iA1⟩, _, _⟩ := hxA; obtain ⟨⟨iM0, iM1⟩, _, _⟩ := hxM; go_simp; try (with_reducible rfl))); (try simp only [Act.put, List.getElem_toArray, List.getElem_cons_succ, List.getElem_cons_zero, List.setIfInBounds_toArray, List.set_cons_zero, List.set_cons_succ])
          (refine wpAnyH_take (i := 5) (v := ?_) rfl (by kernel_rfl) (by kernel_rfl) (by kernel_rfl) (fun _ _ _ h => h) (Or.inl ⟨rfl, ?_⟩) (by assumption) ?_; rotate_left; focus (intro W hSw; (try dsimp only at hSw); have hxx := HXX.out _ hSw; obtain ⟨hxA, hxM⟩ := hxx; obtain ⟨l0, l1, l2, l3⟩ := HCW.out _ hSw; have hgw := World.block_lt_of_cell? _ _ l0; obtain ⟨⟨iA0, iA1⟩, _, _⟩ := hxA; obtain ⟨⟨iM0, iM1⟩, _, _⟩ := hxM; go_simp; try (with_reducible rfl))); (try simp only [Act.put, List.getElem_toArray, List.getElem_cons_succ, List.getElem_cons_zero, List.setIfInBounds_toArray, List.set_cons_zero, List.set_cons_succ])
          refine wpAnyH_ready (rs := [6]) (by kernel_rfl) (by simp) ?_; refine AllReadyH.cons rfl (fun K hK => ?_) AllReadyH.nil
          go_simp; (go_at_call 10; refine (IR.out _).mono ?_; rintro en ywr71x0 ⟨rfl, hb2⟩); have HA := Lib.hid (HA.out.below hb2); have HM := Lib.hid (HM.out.below hb2); have HV1 := Lib.hid (HV1.out.below hb2); refine hK.out _ _ (below_after hb2 hHeld) (fun hHeld2 => ?_); clear hb2; (clear hHeld; rename _ => hHeld; clear hK K; have hHeld : Below ywr21x0.heap.size ywr21x0 _ := hHeld); (try simp only [Act.put, List.getElem_toArray, List.getElem_cons_succ, List.getElem_cons_zero, List.setIfInBounds_toArray, List.set_cons_zero, List.set_cons_succ])
          (refine wpAnyH_take (i := 7) (v := ?_) rfl (by kernel_rfl) (by kernel_rfl) (by kernel_rfl) (fun _ _ _ h => h) (Or.inl ⟨rfl, ?_⟩) (by assumption) ?_; rotate_left; focus (intro W hSw; (try dsimp only at hSw); have hxx := HXX.out _ hSw; obtain ⟨hxA, hxM⟩ := hxx; obtain ⟨l0, l1, l2, l3⟩ := HCW.out _ hSw; have hgw := World.block_lt_of_cell? _ _ l0; obtain ⟨⟨iA0, iA1⟩, _, _⟩ := hxA; obtain ⟨⟨iM0, iM1⟩, _, _⟩ := hxM; go_simp; try (with_reducible rfl))); (try simp only [Act.put, List.getElem_toArray, List.getElem_cons_succ, List.getElem_cons_zero, List.setIfInBounds_toArray, List.set_cons_zero, List.set_cons_succ])
          (refine wpAnyH_take (i := 8) (v := ?_) rfl (by kernel_rfl) (by kernel_rfl) (by kernel_rfl) (fun _ _ _ h => h) (Or.inl ⟨rfl, ?_⟩) (by assumption) ?_; rotate_left; focus (intro W hSw; (try dsimp only at hSw); have hxx := HXX.out _ hSw; obtain ⟨hxA, hxM⟩ := hxx; obtain ⟨l0, l1, l2, l3⟩ := HCW.out _ hSw; have hgw := World.block_lt_of_cell? _ _ l0; obtain ⟨⟨iA0, iA1⟩, _, _⟩ := hxA; obtain ⟨⟨iM0, iM1⟩, _, _⟩ := hxM; go_simp; try (with_reducible rfl))); (try simp only [Act.put, List.getElem_toArray, List.getElem_cons_succ, List.getElem_cons_zero, List.setIfInBounds_toArray, List.set_cons_zero, List.set_cons_succ])
          (refine wpAnyH_take (i := 9) (v := ?_) rfl (by kernel_rfl) (by kernel_rfl) (by kernel_rfl) (fun _ _ _ h => h) (Or.inl ⟨rfl, ?_⟩) (by assumption) ?_; rotate_left; focus (intro W hSw; (try dsimp only at hSw); have hxx := HXX.out _ hSw; obtain ⟨hxA, hxM⟩ := hxx; obtain ⟨l0, l1, l2, l3⟩ := HCW.out _ hSw; have hgw := World.block_lt_of_cell? _ _ l0; obtain ⟨⟨iA0, iA1⟩, _, _⟩ := hxA; obtain ⟨⟨iM0, iM1⟩, _, _⟩ := hxM; go_simp; try (with_reducible rfl))); (try simp only [Act.put, List.getElem_toArray, List.getElem_cons_succ, List.getElem_cons_zero, List.setIfInBounds_toArray, List.set_cons_zero, List.set_cons_succ])
          (refine wpAnyH_take (i := 10) (v := ?_) rfl (by kernel_rfl) (by kernel_rfl) (by kernel_rfl) (fun _ _ _ h => h) (Or.inl ⟨rfl, ?_⟩) (by assumption) ?_; rotate_left; focus (intro W hSw; (try dsimp only at hSw); have hxx := HXX.out _ hSw; obtain ⟨hxA, hxM⟩ := hxx; obtain ⟨l0, l1, l2, l3⟩ := HCW.out _ hSw; have hgw := World.block_lt_of_cell? _ _ l0; obtain ⟨⟨iA0, iA1⟩, _, _⟩ := hxA; obtain ⟨⟨iM0, iM1⟩, _, _⟩ := hxM; go_simp; try (with_reducible rfl))); (try simp only [Act.put, List.getElem_toArray, List.getElem_cons_succ, List.getElem_cons_zero, List.setIfInBounds_toArray, List.set_cons_zero, List.set_cons_succ])
          (refine wpAnyH_take (i := 11) (v := ?_) rfl (by kernel_rfl) (by kernel_rfl) (by kernel_rfl) (fun _ _ _ h => h) (Or.inl ⟨rfl, ?_⟩) (by assumption) ?_; rotate_left; focus (intro W hSw; (try dsimp only at hSw); have hxx := HXX.out _ hSw; obtain ⟨hxA, hxM⟩ := hxx; obtain ⟨l0, l1, l2, l3⟩ := HCW.out _ hSw; have hgw := World.block_lt_of_cell? _ _ l0; obtain ⟨⟨iA0, iA1⟩, _, _⟩ := hxA; obtain ⟨⟨iM0, iM1⟩, _, _⟩ := hxM; go_simp; try (with_reducible rfl))); (try simp only [Act.put, List.getElem_toArray, List.getElem_cons_succ, List.getElem_cons_zero, List.setIfInBounds_toArray, List.set_cons_zero, List.set_cons_succ])
          refine wpAnyH_done (by kernel_rfl) ?_ _
          have hHeld0 := hHeld
          have HB := Lib.hid (HB.out.trans (hHeld.mono HB.out.size))
          clear hHeld HXX
          have HBZ := Lib.hid (below_after hHeld0 HBZ.out)
          clear hHeld0 HCW
          obtain ⟨⟨qA0, qA1⟩, ⟨fA0, fA1⟩, zA⟩ := HA.out
          obtain ⟨⟨qM0, qM1⟩, ⟨fM0, fM1⟩, zM⟩ := HM.out
          obtain ⟨l0, l1, l2, l3⟩ := HCV.out _ HBZ.out
          have hgw := World.block_lt_of_cell? _ _ l0
          go_wp2_with fail
          go_at_call 19
          refine (IP.out _).mono ?_
          rintro e wy ⟨rfl, hy⟩
          obtain ⟨l0, l1, l2, l3⟩ := HCV.out _ (below_after hy HBZ.out)
          have hgw := World.block_lt_of_cell? _ _ l0
          go_wp2_with fail
          go_ret
          exact ⟨by simp, below_after hy HB.out⟩
        · cases hq : isPt (q0, q1)
          · skip
            have hno : (isPt (p0, p1) && isPt (q0, q1)) = false := by rw [hp, hq]; rfl
            have IE := Lib.hid (fun w => impl_DeterminantOf_no p0 p1 q0 q1 w hno)
            have hpc : prC p0 p1 q0 q1 = 1 := by unfold prC; rw [hno]; rfl
            have hpv : rpV p0 p1 q0 q1 = false := by unfold rpV; rw [if_neg (by rw [hpc]; decide)]
            rw [hpc, hpv] at IR
            rw [hp] at IP
            rw [hq] at IQ
            clear hpc hpv hdk hred hp hq hd hdet hno
            have HBZ : Hid (Below w20.heap.size w20 w21) := HBQ.out
            have HCW : Hid (∀ W, Below w21.heap.size w21 W → W.cell? ⟨gv, 0, none⟩ = some (.int .i64 p0) ∧ W.cell? ⟨gv, 1, none⟩ = some (.int .i64 p1) ∧ W.cell? ⟨gv, 2, none⟩ = some (.int .i64 q0) ∧ W.cell? ⟨gv, 3, none⟩ = some (.int .i64 q1)) := fun W hW => HCV.out W (below_after hW HBZ.out)
            have HXX : Hid (∀ W, Below w21.heap.size w21 W → Bk2 W GA x0 y0 ∧ Bk2 W GM x1 y1) := fun W hW => ⟨HA.out.below hW, HM.out.below hW⟩
            go_wp2_with fail
            refine wp_region_held_drew (S := fun W => Below w21.heap.size w21 W) (by kernel_rfl) ?_ (fun hHeld => ?_); focus ((try dsimp only); exact (Below.refl _ _).drew)
            have HA := Lib.hid (HA.out.below (Below.drew (Below.refl _ _)))
            have HM := Lib.hid (HM.out.below (Below.drew (Below.refl _ _)))
            have HV1 := Lib.hid (HV1.out.below (Below.drew (Below.refl _ _)))
            have hHeld : Below w21.heap.size w21 _ := hHeld
            obtain ⟨wD21, hwD21⟩ : ∃ wD, w21.drew = wD := ⟨_, rfl⟩
            rw [hwD21] at hHeld HA HM HV1 ⊢
            clear hwD21
            (refine wpAnyH_take (i := 0) (v := ?_) rfl (by kernel_rfl) (by kernel_rfl) (by kernel_rfl) (fun _ _ _ h => h) (Or.inl ⟨rfl, ?_⟩) (by assumption) ?_; rotate_left; focus (intro W hSw; (try dsimp only at hSw); have hxx := HXX.out _ hSw; obtain ⟨hxA, hxM⟩ := hxx; obtain ⟨l0, l1, l2, l3⟩ := HCW.out _ hSw; have hgw := World.block_lt_of_cell? _ _ l0; obtain ⟨⟨iA0, iA1⟩, _, _⟩ := hxA; obtain ⟨⟨iM0, iM1⟩, _, _⟩ := hxM; go_simp; try (with_reducible rfl))); (try simp only [Act.put, List.getElem_toArray, List.getElem_cons_succ, List.getElem_cons_zero, List.setIfInBounds_toArray, List.set_cons_zero, List.set_cons_succ])
            (refine wpAnyH_take (i := 1) (v := ?_) rfl (by kernel_rfl) (by kernel_rfl) (by kernel_rfl) (fun _ _ _ h => h) (Or.inl ⟨rfl, ?_⟩) (by assumption) ?_; rotate_left; focus (intro W hSw; (try dsimp only at hSw); have hxx := HXX.out _ hSw; obtain ⟨hxA, hxM⟩ := hxx; obtain ⟨l0, l1, l2, l3⟩ := HCW.out _ hSw; have hgw := World.block_lt_of_cell? _ _ l0; obtain ⟨⟨iA0, iA1⟩, _, _⟩ := hxA; obtain ⟨⟨iM0, iM1⟩, _, _⟩ := hxM; go_simp; try (with_reducible rfl))); (try simp only [Act.put, List.getElem_toArray, List.getElem_cons_succ, List.getElem_cons_zero, List.setIfInBounds_toArray, List.set_cons_zero, List.set_cons_succ])
            (refine wpAnyH_take (i := 2) (v := ?_) rfl (by kernel_rfl) (by kernel_rfl) (by kernel_rfl) (fun _ _ _ h => h) (Or.inl ⟨rfl, ?_⟩) (by assumption) ?_; rotate_left; focus (intro W hSw; (try dsimp only at hSw); have hxx := HXX.out _ hSw; obtain ⟨hxA, hxM⟩ := hxx; obtain ⟨l0, l1, l2, l3⟩ := HCW.out _ hSw; have hgw := World.block_lt_of_cell? _ _ l0; obtain ⟨⟨iA0, iA1⟩, _, _⟩ := hxA; obtain ⟨⟨iM0, iM1⟩, _, _⟩ := hxM; go_simp; try (with_reducible rfl))); (try simp only [Act.put, List.getElem_toArray, List.getElem_cons_succ, List.getElem_cons_zero, List.setIfInBounds_toArray, List.set_cons_zero, List.set_cons_succ])
            (refine wpAnyH_take (i := 3) (v := ?_) rfl (by kernel_rfl) (by kernel_rfl) (by kernel_rfl) (fun _ _ _ h => h) (Or.inl ⟨rfl, ?_⟩) (by assumption) ?_; rotate_left; focus (intro W hSw; (try dsimp only at hSw); have hxx := HXX.out _ hSw; obtain ⟨hxA, hxM⟩ := hxx; obtain ⟨l0, l1, l2, l3⟩ := HCW.out _ hSw; have hgw := World.block_lt_of_cell? _ _ l0; obtain ⟨⟨iA0, iA1⟩, _, _⟩ := hxA; obtain ⟨⟨iM0, iM1⟩, _, _⟩ := hxM; go_simp; try (with_reducible rfl))); (try simp only [Act.put, List.getElem_toArray, List.getElem_cons_succ, List.getElem_cons_zero, List.setIfInBounds_toArray, List.set_cons_zero, List.set_cons_succ])
            (refine wpAnyH_take (i := 4) (v := ?_) rfl (by kernel_rfl) (by kernel_rfl) (by kernel_rfl) (fun _ _ _ h => h) (Or.inl ⟨rfl, ?_⟩) (by assumption) ?_; rotate_left; focus (intro W hSw; (try dsimp only at hSw); have hxx := HXX.out _ hSw; obtain ⟨hxA, hxM⟩ := hxx; obtain ⟨l0, l1, l2, l3⟩ := HCW.out _ hSw; have hgw := World.block_lt_of_cell? _ _ l0; obtain ⟨⟨iA0, iA1⟩, _, _⟩ := hxA; obtain ⟨⟨iM0, iM1⟩, _, _⟩ := hxM; go_simp; try (with_reducible rfl))); (try simp only [Act.put, List.getElem_toArray, List.getElem_cons_succ, List.getElem_cons_zero, List.setIfInBounds_toArray, List.set_cons_zero, List.set_cons_succ])
            (refine wpAnyH_take (i := 5) (v := ?_) rfl (by kernel_rfl) (by kernel_rfl) (by kernel_rfl) (fun _ _ _ h => h) (Or.inl ⟨rfl, ?_⟩) (by assumption) ?_; rotate_left; focus (intro W hSw; (try dsimp only at hSw); have hxx := HXX.out _ hSw; obtain ⟨hxA, hxM⟩ := hxx; obtain ⟨l0, l1, l2, l3⟩ := HCW.out _ hSw; have hgw := World.block_lt_of_cell? _ _ l0; obtain ⟨⟨iA0, iA1⟩, _, _⟩ := hxA; obtain ⟨⟨iM0, iM1⟩, _, _⟩ := hxM; go_simp; try (with_reducible rfl))); (try simp only [Act.put, List.getElem_toArray, List.getElem_cons_succ, List.getElem_cons_zero, List.setIfInBounds_toArray, List.set_cons_zero, List.set_cons_succ])
            refine wpAnyH_ready (rs := [6]) (by kernel_rfl) (by simp) ?_; refine AllReadyH.cons rfl (fun K hK => ?_) AllReadyH.nil
            go_simp; (go_at_call 18; refine (IE.out _).mono ?_; rintro en ywr21x0 ⟨rfl, hb2⟩); have HA := Lib.hid (HA.out.below hb2); have HM := Lib.hid (HM.out.below hb2); have HV1 := Lib.hid (HV1.out.below hb2); refine hK.out _ _ (below_after hb2 hHeld) (fun hHeld2 => ?_); clear hb2; (clear hHeld; rename _ => hHeld; clear hK K; have hHeld : Below w21.heap.size w21 _ := hHeld); (try simp only [Act.put, List.getElem_toArray, List.getElem_cons_succ, List.getElem_cons_zero, List.setIfInBounds_toArray, List.set_cons_zero, List.set_cons_succ])
            (refine wpAnyH_take (i := 7) (v := ?_) rfl (by kernel_rfl) (by kernel_rfl) (by kernel_rfl) (fun _ _ _ h => h) (Or.inl ⟨rfl, ?_⟩) (by assumption) ?_; rotate_left; focus (intro W hSw; (try dsimp only at hSw); have hxx := HXX.out _ hSw; obtain ⟨hxA, hxM⟩ := hxx; obtain ⟨l0, l1, l2, l3⟩ := HCW.out _ hSw; have hgw := World.block_lt_of_cell? _ _ l0; obtain ⟨⟨iA0, iA1⟩, _, _⟩ := hxA; obtain ⟨⟨iM0, iM1⟩, _, _⟩ := hxM; go_simp; try (with_reducible rfl))); (try simp only [Act.put, List.getElem_toArray, List.getElem_cons_succ, List.getElem_cons_zero, List.setIfInBounds_toArray, List.set_cons_zero, List.set_cons_succ])
            (refine wpAnyH_take (i := 8) (v := ?_) rfl (by kernel_rfl) (by kernel_rfl) (by kernel_rfl) (fun _ _ _ h => h) (Or.inl ⟨rfl, ?_⟩) (by assumption) ?_; rotate_left; focus (intro W hSw; (try dsimp only at hSw); have hxx := HXX.out _ hSw; obtain ⟨hxA, hxM⟩ := hxx; obtain ⟨l0, l1, l2, l3⟩ := HCW.out _ hSw; have hgw := World.block_lt_of_cell? _ _ l0; obtain ⟨⟨iA0, iA1⟩, _, _⟩ := hxA; obtain ⟨⟨iM0, iM1⟩, _, _⟩ := hxM; go_simp; try (with_reducible rfl))); (try simp only [Act.put, List.getElem_toArray, List.getElem_cons_succ, List.getElem_cons_zero, List.setIfInBounds_toArray, List.set_cons_zero, List.set_cons_succ])
            (refine wpAnyH_take (i := 9) (v := ?_) rfl (by kernel_rfl) (by kernel_rfl) (by kernel_rfl) (fun _ _ _ h => h) (Or.inl ⟨rfl, ?_⟩) (by assumption) ?_; rotate_left; focus (intro W hSw; (try dsimp only at hSw); have hxx := HXX.out _ hSw; obtain ⟨hxA, hxM⟩ := hxx; obtain ⟨l0, l1, l2, l3⟩ := HCW.out _ hSw; have hgw := World.block_lt_of_cell? _ _ l0; obtain ⟨⟨iA0, iA1⟩, _, _⟩ := hxA; obtain ⟨⟨iM0, iM1⟩, _, _⟩ := hxM; go_simp; try (with_reducible rfl))); (try simp only [Act.put, List.getElem_toArray, List.getElem_cons_succ, List.getElem_cons_zero, List.setIfInBounds_toArray, List.set_cons_zero, List.set_cons_succ])
            (refine wpAnyH_take (i := 10) (v := ?_) rfl (by kernel_rfl) (by kernel_rfl) (by kernel_rfl) (fun _ _ _ h => h) (Or.inl ⟨rfl, ?_⟩) (by assumption) ?_; rotate_left; focus (intro W hSw; (try dsimp only at hSw); have hxx := HXX.out _ hSw; obtain ⟨hxA, hxM⟩ := hxx; obtain ⟨l0, l1, l2, l3⟩ := HCW.out _ hSw; have hgw := World.block_lt_of_cell? _ _ l0; obtain ⟨⟨iA0, iA1⟩, _, _⟩ := hxA; obtain ⟨⟨iM0, iM1⟩, _, _⟩ := hxM; go_simp; try (with_reducible rfl))); (try simp only [Act.put, List.getElem_toArray, List.getElem_cons_succ, List.getElem_cons_zero, List.setIfInBounds_toArray, List.set_cons_zero, List.set_cons_succ])
            (refine wpAnyH_take (i := 11) (v := ?_) rfl (by kernel_rfl) (by kernel_rfl) (by kernel_rfl) (fun _ _ _ h => h) (Or.inl ⟨rfl, ?_⟩) (by assumption) ?_; rotate_left; focus (intro W hSw; (try dsimp only at hSw); have hxx := HXX.out _ hSw; obtain ⟨hxA, hxM⟩ := hxx; obtain ⟨l0, l1, l2, l3⟩ := HCW.out _ hSw; have hgw := World.block_lt_of_cell? _ _ l0; obtain ⟨⟨iA0, iA1⟩, _, _⟩ := hxA; obtain ⟨⟨iM0, iM1⟩, _, _⟩ := hxM; go_simp; try (with_reducible rfl))); (try simp only [Act.put, List.getElem_toArray, List.getElem_cons_succ, List.getElem_cons_zero, List.setIfInBounds_toArray, List.set_cons_zero, List.set_cons_succ])
            refine wpAnyH_done (by kernel_rfl) ?_ _
            have hHeld0 := hHeld
            have HB := Lib.hid (HB.out.trans (hHeld.mono HB.out.size))
            clear hHeld HXX
            have HBZ := Lib.hid (below_after hHeld0 HBZ.out)
            clear hHeld0 HCW
            have HCW : Hid (∀ W, Below ywr21x0.heap.size ywr21x0 W → W.cell? ⟨gv, 0, none⟩ = some (.int .i64 p0) ∧ W.cell? ⟨gv, 1, none⟩ = some (.int .i64 p1) ∧ W.cell? ⟨gv, 2, none⟩ = some (.int .i64 q0) ∧ W.cell? ⟨gv, 3, none⟩ = some (.int .i64 q1)) := fun W hW => HCV.out W (below_after hW HBZ.out)
            have HXX : Hid (∀ W, Below ywr21x0.heap.size ywr21x0 W → Bk2 W GA x0 y0 ∧ Bk2 W GM x1 y1) := fun W hW => ⟨HA.out.below hW, HM.out.below hW⟩
            go_wp2_with fail
            refine wp_region_held_drew (S := fun W => Below ywr21x0.heap.size ywr21x0 W) (by kernel_rfl) ?_ (fun hHeld => ?_); focus ((try dsimp only); exact (Below.refl _ _).drew)
            have HA := Lib.hid (HA.out.below (Below.drew (Below.refl _ _)))
            have HM := Lib.hid (HM.out.below (Below.drew (Below.refl _ _)))
            have HV1 := Lib.hid (HV1.out.below (Below.drew (Below.refl _ _)))
            have hHeld : Below ywr21x0.heap.size ywr21x0 _ := hHeld
            obtain ⟨wD71, hwD71⟩ : ∃ wD, ywr21x0.drew = wD := ⟨_, rfl⟩
            rw [hwD71] at hHeld HA HM HV1 ⊢
            clear hwD71
            (refine wpAnyH_take (i := 0) (v := ?_) rfl (by kernel_rfl) (by kernel_rfl) (by kernel_rfl) (fun _ _ _ h => h) (Or.inl ⟨rfl, ?_⟩) (by assumption) ?_; rotate_left; focus (intro W hSw; (try dsimp only at hSw); have hxx := HXX.out _ hSw; obtain ⟨hxA, hxM⟩ := hxx; obtain ⟨l0, l1, l2, l3⟩ := HCW.out _ hSw; have hgw := World.block_lt_of_cell? _ _ l0; obtain ⟨⟨iA0, iA1⟩, _, _⟩ := hxA; obtain ⟨⟨iM0, iM1⟩, _, _⟩ := hxM; go_simp; try (with_reducible rfl))); (try simp only [Act.put, List.getElem_toArray, List.getElem_cons_succ, List.getElem_cons_zero, List.setIfInBounds_toArray, List.set_cons_zero, List.set_cons_succ])
            (refine wpAnyH_take (i := 1) (v := ?_) rfl (by kernel_rfl) (by kernel_rfl) (by kernel_rfl) (fun _ _ _ h => h) (Or.inl ⟨rfl, ?_⟩) (by assumption) ?_; rotate_left; focus (intro W hSw; (try dsimp only at hSw); have hxx := HXX.out _ hSw; obtain ⟨hxA, hxM⟩ := hxx; obtain ⟨l0, l1, l2, l3⟩ := HCW.out _ hSw; have hgw := World.block_lt_of_cell? _ _ l0; obtain ⟨⟨iA0, iA1⟩, _, _⟩ := hxA; obtain ⟨⟨iM0, iM1⟩, _, _⟩ := hxM; go_simp; try (with_reducible rfl))); (try simp only [Act.put, List.getElem_toArray, List.getElem_cons_succ, List.getElem_cons_zero, List.setIfInBounds_toArray, List.set_cons_zero, List.set_cons_succ])
            (refine wpAnyH_take (i := 2) (v := ?_) rfl (by kernel_rfl) (by kernel_rfl) (by kernel_rfl) (fun _ _ _ h => h) (Or.inl ⟨rfl, ?_⟩) (by assumption) ?_; rotate_left; focus (intro W hSw; (try dsimp only at hSw); have hxx := HXX.out _ hSw; obtain ⟨hxA, hxM⟩ := hxx; obtain ⟨l0, l1, l2, l3⟩ := HCW.out _ hSw; have hgw := World.block_lt_of_cell? _ _ l0; obtain ⟨⟨iA0, iA1⟩, _, _⟩ := hxA; obtain ⟨⟨iM0, iM1⟩, _, _⟩ := hxM; go_simp; try (with_reducible rfl))); (try simp only [Act.put, List.getElem_toArray, List.getElem_cons_succ, List.getElem_cons_zero, List.setIfInBounds_toArray, List.set_cons_zero, List.set_cons_succ])
            (refine wpAnyH_take (i := 3) (v := ?_) rfl (by kernel_rfl) (by kernel_rfl) (by kernel_rfl) (fun _ _ _ h => h) (Or.inl ⟨rfl, ?_⟩) (by assumption) ?_; rotate_left; focus (intro W hSw; (try dsimp only at hSw); have hxx := HXX.out _ hSw; obtain ⟨hxA, hxM⟩ := hxx; obtain ⟨l0, l1, l2, l3⟩ := HCW.out _ hSw; have hgw := World.block_lt_of_cell? _ _ l0; obtain ⟨⟨iA0, iA1⟩, _, _⟩ := hxA; obtain ⟨⟨iM0, iM1⟩, _, _⟩ := hxM; go_simp; try (with_reducible rfl))); (try simp only [Act.put, List.getElem_toArray, List.getElem_cons_succ, List.getElem_cons_zero, List.setIfInBounds_toArray, List.set_cons_zero, List.set_cons_succ])
            (refine wpAnyH_take (i := 4) (v := ?_) rfl (by kernel_rfl) (by kernel_rfl) (by kernel_rfl) (fun _ _ _ h => h) (Or.inl ⟨rfl, ?_⟩) (by assumption) ?_; rotate_left; focus (intro W hSw; (try dsimp only at hSw); have hxx := HXX.out _ hSw; obtain ⟨hxA, hxM⟩ := hxx; obtain ⟨l0, l1, l2, l3⟩ := HCW.out _ hSw; have hgw := World.block_lt_of_cell? _ _ l0; obtain ⟨⟨iA0, iA1⟩, _, _⟩ := hxA; obtain ⟨⟨iM0, iM1⟩, _, _⟩ := hxM; go_simp; try (with_reducible rfl))); (try simp only [Act.put, List.getElem_toArray, List.getElem_cons_succ, List.getElem_cons_zero, List.setIfInBounds_toArray, List.set_cons_zero, List.set_cons_succ])
            (refine wpAnyH_take (i := 5) (v := ?_) rfl (by kernel_rfl) (by kernel_rfl) (by kernel_rfl) (fun _ _ _ h => h) (Or.inl ⟨rfl, ?_⟩) (by assumption) ?_; rotate_left; focus (intro W hSw; (try dsimp only at hSw); have hxx := HXX.out _ hSw; obtain ⟨hxA, hxM⟩ := hxx; obtain ⟨l0, l1, l2, l3⟩ := HCW.out _ hSw; have hgw := World.block_lt_of_cell? _ _ l0; obtain ⟨⟨iA0, iA1⟩, _, _⟩ := hxA; obtain ⟨⟨iM0, iM1⟩, _, _⟩ := hxM; go_simp; try (with_reducible rfl))); (try simp only [Act.put, List.getElem_toArray, List.getElem_cons_succ, List.getElem_cons_zero, List.setIfInBounds_toArray, List.set_cons_zero, List.set_cons_succ])
            refine wpAnyH_ready (rs := [6]) (by kernel_rfl) (by simp) ?_; refine AllReadyH.cons rfl (fun K hK => ?_) AllReadyH.nil
            go_simp; (go_at_call 10; refine (IR.out _).mono ?_; rintro en ywr71x0 ⟨rfl, hb2⟩); have HA := Lib.hid (HA.out.below hb2); have HM := Lib.hid (HM.out.below hb2); have HV1 := Lib.hid (HV1.out.below hb2); refine hK.out _ _ (below_after hb2 hHeld) (fun hHeld2 => ?_); clear hb2; (clear hHeld; rename _ => hHeld; clear hK K; have hHeld : Below ywr21x0.heap.size ywr21x0 _ := hHeld); (try simp only [Act.put, List.getElem_toArray, List.getElem_cons_succ, List.getElem_cons_zero, List.setIfInBounds_toArray, List.set_cons_zero, List.set_cons_succ])
            (refine wpAnyH_take (i := 7) (v := ?_) rfl (by kernel_rfl) (by kernel_rfl) (by kernel_rfl) (fun _ _ _ h => h) (Or.inl ⟨rfl, ?_⟩) (by assumption) ?_; rotate_left; focus (intro W hSw; (try dsimp only at hSw); have hxx := HXX.out _ hSw; obtain ⟨hxA, hxM⟩ := hxx; obtain ⟨l0, l1, l2, l3⟩ := HCW.out _ hSw; have hgw := World.block_lt_of_cell? _ _ l0; obtain ⟨⟨iA0, iA1⟩, _, _⟩ := hxA; obtain ⟨⟨iM0, iM1⟩, _, _⟩ := hxM; go_simp; try (with_reducible rfl))); (try simp only [Act.put, List.getElem_toArray, List.getElem_cons_succ, List.getElem_cons_zero, List.setIfInBounds_toArray, List.set_cons_zero, List.set_cons_succ])
            (refine wpAnyH_take (i := 8) (v := ?_) rfl (by kernel_rfl) (by kernel_rfl) (by kernel_rfl) (fun _ _ _ h => h) (Or.inl ⟨rfl, ?_⟩) (by assumption) ?_; rotate_left; focus (intro W hSw; (try dsimp only at hSw); have hxx := HXX.out _ hSw; obtain ⟨hxA, hxM⟩ := hxx; obtain ⟨l0, l1, l2, l3⟩ := HCW.out _ hSw; have hgw := World.block_lt_of_cell? _ _ l0; obtain ⟨⟨iA0, iA1⟩, _, _⟩ := hxA; obtain ⟨⟨iM0, iM1⟩, _, _⟩ := hxM; go_simp; try (with_reducible rfl))); (try simp only [Act.put, List.getElem_toArray, List.getElem_cons_succ, List.getElem_cons_zero, List.setIfInBounds_toArray, List.set_cons_zero, List.set_cons_succ])
            (refine wpAnyH_take (i := 9) (v := ?_) rfl (by kernel_rfl) (by kernel_rfl) (by kernel_rfl) (fun _ _ _ h => h) (Or.inl ⟨rfl, ?_⟩) (by assumption) ?_; rotate_left; focus (intro W hSw; (try dsimp only at hSw); have hxx := HXX.out _ hSw; obtain ⟨hxA, hxM⟩ := hxx; obtain ⟨l0, l1, l2, l3⟩ := HCW.out _ hSw; have hgw := World.block_lt_of_cell? _ _ l0; obtain ⟨⟨iA0, iA1⟩, _, _⟩ := hxA; obtain ⟨⟨iM0, iM1⟩, _, _⟩ := hxM; go_simp; try (with_reducible rfl))); (try simp only [Act.put, List.getElem_toArray, List.getElem_cons_succ, List.getElem_cons_zero, List.setIfInBounds_toArray, List.set_cons_zero, List.set_cons_succ])
            (refine wpAnyH_take (i := 10) (v := ?_) rfl (by kernel_rfl) (by kernel_rfl) (by kernel_rfl) (fun _ _ _ h => h) (Or.inl ⟨rfl, ?_⟩) (by assumption) ?_; rotate_left; focus (intro W hSw; (try dsimp only at hSw); have hxx := HXX.out _ hSw; obtain ⟨hxA, hxM⟩ := hxx; obtain ⟨l0, l1, l2, l3⟩ := HCW.out _ hSw; have hgw := World.block_lt_of_cell? _ _ l0; obtain ⟨⟨iA0, iA1⟩, _, _⟩ := hxA; obtain ⟨⟨iM0, iM1⟩, _, _⟩ := hxM; go_simp; try (with_reducible rfl))); (try simp only [Act.put, List.getElem_toArray, List.getElem_cons_succ, List.getElem_cons_zero, List.setIfInBounds_toArray, List.set_cons_zero, List.set_cons_succ])
            (refine wpAnyH_take (i := 11) (v := ?_) rfl (by kernel_rfl) (by kernel_rfl) (by kernel_rfl) (fun _ _ _ h => h) (Or.inl ⟨rfl, ?_⟩) (by assumption) ?_; rotate_left; focus (intro W hSw; (try dsimp only at hSw); have hxx := HXX.out _ hSw; obtain ⟨hxA, hxM⟩ := hxx; obtain ⟨l0, l1, l2, l3⟩ := HCW.out _ hSw; have hgw := World.block_lt_of_cell? _ _ l0; obtain ⟨⟨iA0, iA1⟩, _, _⟩ := hxA; obtain ⟨⟨iM0, iM1⟩, _, _⟩ := hxM; go_simp; try (with_reducible rfl))); (try simp only [Act.put, List.getElem_toArray, List.getElem_cons_succ, List.getElem_cons_zero, List.setIfInBounds_toArray, List.set_cons_zero, List.set_cons_succ])
            refine wpAnyH_done (by kernel_rfl) ?_ _
            have hHeld0 := hHeld
            have HB := Lib.hid (HB.out.trans (hHeld.mono HB.out.size))
            clear hHeld HXX
            have HBZ := Lib.hid (below_after hHeld0 HBZ.out)
            clear hHeld0 HCW
            obtain ⟨⟨qA0, qA1⟩, ⟨fA0, fA1⟩, zA⟩ := HA.out
            obtain ⟨⟨qM0, qM1⟩, ⟨fM0, fM1⟩, zM⟩ := HM.out
            obtain ⟨l0, l1, l2, l3⟩ := HCV.out _ HBZ.out
            have hgw := World.block_lt_of_cell? _ _ l0
            go_wp2_with fail
            go_at_call 19
            refine (IP.out _).mono ?_
            rintro e wy ⟨rfl, hy⟩
            obtain ⟨l0, l1, l2, l3⟩ := HCV.out _ (below_after hy HBZ.out)
            have hgw := World.block_lt_of_cell? _ _ l0
            go_wp2_with fail
            go_at_call 19
            refine (IQ.out _).mono ?_
            rintro e wz ⟨rfl, hz⟩
            go_wp2_with fail
            go_ret
            exact ⟨by simp, below_after hz (below_after hy HB.out)⟩
          · skip
            have IE := Lib.hid (fun w => impl_DeterminantOf_yes p0 p1 q0 q1 w hp hq)
            obtain ⟨b3, b4⟩ := det_pt hp hq
            have hpc : prC p0 p1 q0 q1 = 0 := by unfold prC; rw [hp, hq, if_pos (show (true && true) = true from rfl), if_neg hdk]
            have hpv : rpV p0 p1 q0 q1 = true := by unfold rpV; rw [if_pos hpc]; exact hred
            rw [hpc, hpv] at IR
            rw [hp] at IP
            rw [hq] at IQ
            obtain ⟨D2, hD2⟩ : ∃ D, detP (p0, p1) (q0, q1) = D := ⟨_, rfl⟩
            rw [hD2] at IE hdet b3 b4
            obtain ⟨M, hM⟩ : ∃ M, max D1 (-D1) = M := ⟨_, rfl⟩
            have hM2 : max D2 (-D2) = M := by rw [← hM]; omega
            have hma := Lib.hid hM
            have hmb := Lib.hid hM2
            have hw1 : IntKind.i64.wrap (-D1) = -D1 := by rw [IntKind.wrap_i64]; omega
            have hw2 : IntKind.i64.wrap (-D2) = -D2 := by rw [IntKind.wrap_i64]; omega
            have hwa := Lib.hid hw1
            have hwb := Lib.hid hw2
            clear hpc hpv hD2 hdk hred hM hM2 hp hq hd hdet hw1 hw2
            have HBZ : Hid (Below w20.heap.size w20 w21) := HBQ.out
            have HCW : Hid (∀ W, Below w21.heap.size w21 W → W.cell? ⟨gv, 0, none⟩ = some (.int .i64 p0) ∧ W.cell? ⟨gv, 1, none⟩ = some (.int .i64 p1) ∧ W.cell? ⟨gv, 2, none⟩ = some (.int .i64 q0) ∧ W.cell? ⟨gv, 3, none⟩ = some (.int .i64 q1)) := fun W hW => HCV.out W (below_after hW HBZ.out)
            have HXX : Hid (∀ W, Below w21.heap.size w21 W → Bk2 W GA x0 y0 ∧ Bk2 W GM x1 y1) := fun W hW => ⟨HA.out.below hW, HM.out.below hW⟩
            go_wp2_with fail
            refine wp_region_held_drew (S := fun W => Below w21.heap.size w21 W) (by kernel_rfl) ?_ (fun hHeld => ?_); focus ((try dsimp only); exact (Below.refl _ _).drew)
            have HA := Lib.hid (HA.out.below (Below.drew (Below.refl _ _)))
            have HM := Lib.hid (HM.out.below (Below.drew (Below.refl _ _)))
            have HV1 := Lib.hid (HV1.out.below (Below.drew (Below.refl _ _)))
            have hHeld : Below w21.heap.size w21 _ := hHeld
            obtain ⟨wD21, hwD21⟩ : ∃ wD, w21.drew = wD := ⟨_, rfl⟩
            rw [hwD21] at hHeld HA HM HV1 ⊢
            clear hwD21
            (refine wpAnyH_take (i := 0) (v := ?_) rfl (by kernel_rfl) (by kernel_rfl) (by kernel_rfl) (fun _ _ _ h => h) (Or.inl ⟨rfl, ?_⟩) (by assumption) ?_; rotate_left; focus (intro W hSw; (try dsimp only at hSw); have hxx := HXX.out _ hSw; obtain ⟨hxA, hxM⟩ := hxx; obtain ⟨l0, l1, l2, l3⟩ := HCW.out _ hSw; have hgw := World.block_lt_of_cell? _ _ l0; obtain ⟨⟨iA0, iA1⟩, _, _⟩ := hxA; obtain ⟨⟨iM0, iM1⟩, _, _⟩ := hxM; go_simp; try (with_reducible rfl))); (try simp only [Act.put, List.getElem_toArray, List.getElem_cons_succ, List.getElem_cons_zero, List.setIfInBounds_toArray, List.set_cons_zero, List.set_cons_succ])
            (refine wpAnyH_take (i := 1) (v := ?_) rfl (by kernel_rfl) (by kernel_rfl) (by kernel_rfl) (fun _ _ _ h => h) (Or.inl ⟨rfl, ?_⟩) (by assumption) ?_; rotate_left; focus (intro W hSw; (try dsimp only at hSw); have hxx := HXX.out _ hSw; obtain ⟨hxA, hxM⟩ := hxx; obtain ⟨l0, l1, l2, l3⟩ := HCW.out _ hSw; have hgw := World.block_lt_of_cell? _ _ l0; obtain ⟨⟨iA0, iA1⟩, _, _⟩ := hxA; obtain ⟨⟨iM0, iM1⟩, _, _⟩ := hxM; go_simp; try (with_reducible rfl))); (try simp only [Act.put, List.getElem_toArray, List.getElem_cons_succ, List.getElem_cons_zero, List.setIfInBounds_toArray, List.set_cons_zero, List.set_cons_succ])
            (refine wpAnyH_take (i := 2) (v := ?_) rfl (by kernel_rfl) (by kernel_rfl) (by kernel_rfl) (fun _ _ _ h => h) (Or.inl ⟨rfl, ?_⟩) (by assumption) ?_; rotate_left; focus (intro W hSw; (try dsimp only at hSw); have hxx := HXX.out _ hSw; obtain ⟨hxA, hxM⟩ := hxx; obtain ⟨l0, l1, l2, l3⟩ := HCW.out _ hSw; have hgw := World.block_lt_of_cell? _ _ l0; obtain ⟨⟨iA0, iA1⟩, _, _⟩ := hxA; obtain ⟨⟨iM0, iM1⟩, _, _⟩ := hxM; go_simp; try (with_reducible rfl))); (try simp only [Act.put, List.getElem_toArray, List.getElem_cons_succ, List.getElem_cons_zero, List.setIfInBounds_toArray, List.set_cons_zero, List.set_cons_succ])
            (refine wpAnyH_take (i := 3) (v := ?_) rfl (by kernel_rfl) (by kernel_rfl) (by kernel_rfl) (fun _ _ _ h => h) (Or.inl ⟨rfl, ?_⟩) (by assumption) ?_; rotate_left; focus (intro W hSw; (try dsimp only at hSw); have hxx := HXX.out _ hSw; obtain ⟨hxA, hxM⟩ := hxx; obtain ⟨l0, l1, l2, l3⟩ := HCW.out _ hSw; have hgw := World.block_lt_of_cell? _ _ l0; obtain ⟨⟨iA0, iA1⟩, _, _⟩ := hxA; obtain ⟨⟨iM0, iM1⟩, _, _⟩ := hxM; go_simp; try (with_reducible rfl))); (try simp only [Act.put, List.getElem_toArray, List.getElem_cons_succ, List.getElem_cons_zero, List.setIfInBounds_toArray, List.set_cons_zero, List.set_cons_succ])
            (refine wpAnyH_take (i := 4) (v := ?_) rfl (by kernel_rfl) (by kernel_rfl) (by kernel_rfl) (fun _ _ _ h => h) (Or.inl ⟨rfl, ?_⟩) (by assumption) ?_; rotate_left; focus (intro W hSw; (try dsimp only at hSw); have hxx := HXX.out _ hSw; obtain ⟨hxA, hxM⟩ := hxx; obtain ⟨l0, l1, l2, l3⟩ := HCW.out _ hSw; have hgw := World.block_lt_of_cell? _ _ l0; obtain ⟨⟨iA0, iA1⟩, _, _⟩ := hxA; obtain ⟨⟨iM0, iM1⟩, _, _⟩ := hxM; go_simp; try (with_reducible rfl))); (try simp only [Act.put, List.getElem_toArray, List.getElem_cons_succ, List.getElem_cons_zero, List.setIfInBounds_toArray, List.set_cons_zero, List.set_cons_succ])
            (refine wpAnyH_take (i := 5) (v := ?_) rfl (by kernel_rfl) (by kernel_rfl) (by kernel_rfl) (fun _ _ _ h => h) (Or.inl ⟨rfl, ?_⟩) (by assumption) ?_; rotate_left; focus (intro W hSw; (try dsimp only at hSw); have hxx := HXX.out _ hSw; obtain ⟨hxA, hxM⟩ := hxx; obtain ⟨l0, l1, l2, l3⟩ := HCW.out _ hSw; have hgw := World.block_lt_of_cell? _ _ l0; obtain ⟨⟨iA0, iA1⟩, _, _⟩ := hxA; obtain ⟨⟨iM0, iM1⟩, _, _⟩ := hxM; go_simp; try (with_reducible rfl))); (try simp only [Act.put, List.getElem_toArray, List.getElem_cons_succ, List.getElem_cons_zero, List.setIfInBounds_toArray, List.set_cons_zero, List.set_cons_succ])
            refine wpAnyH_ready (rs := [6]) (by kernel_rfl) (by simp) ?_; refine AllReadyH.cons rfl (fun K hK => ?_) AllReadyH.nil
            go_simp; (go_at_call 18; refine (IE.out _).mono ?_; rintro en ywr21x0 ⟨rfl, hb2⟩); have HA := Lib.hid (HA.out.below hb2); have HM := Lib.hid (HM.out.below hb2); have HV1 := Lib.hid (HV1.out.below hb2); refine hK.out _ _ (below_after hb2 hHeld) (fun hHeld2 => ?_); clear hb2; (clear hHeld; rename _ => hHeld; clear hK K; have hHeld : Below w21.heap.size w21 _ := hHeld); (try simp only [Act.put, List.getElem_toArray, List.getElem_cons_succ, List.getElem_cons_zero, List.setIfInBounds_toArray, List.set_cons_zero, List.set_cons_succ])
            (refine wpAnyH_take (i := 7) (v := ?_) rfl (by kernel_rfl) (by kernel_rfl) (by kernel_rfl) (fun _ _ _ h => h) (Or.inl ⟨rfl, ?_⟩) (by assumption) ?_; rotate_left; focus (intro W hSw; (try dsimp only at hSw); have hxx := HXX.out _ hSw; obtain ⟨hxA, hxM⟩ := hxx; obtain ⟨l0, l1, l2, l3⟩ := HCW.out _ hSw; have hgw := World.block_lt_of_cell? _ _ l0; obtain ⟨⟨iA0, iA1⟩, _, _⟩ := hxA; obtain ⟨⟨iM0, iM1⟩, _, _⟩ := hxM; go_simp; try (with_reducible rfl))); (try simp only [Act.put, List.getElem_toArray, List.getElem_cons_succ, List.getElem_cons_zero, List.setIfInBounds_toArray, List.set_cons_zero, List.set_cons_succ])
            (refine wpAnyH_take (i := 8) (v := ?_) rfl (by kernel_rfl) (by kernel_rfl) (by kernel_rfl) (fun _ _ _ h => h) (Or.inl ⟨rfl, ?_⟩) (by assumption) ?_; rotate_left; focus (intro W hSw; (try dsimp only at hSw); have hxx := HXX.out _ hSw; obtain ⟨hxA, hxM⟩ := hxx; obtain ⟨l0, l1, l2, l3⟩ := HCW.out _ hSw; have hgw := World.block_lt_of_cell? _ _ l0; obtain ⟨⟨iA0, iA1⟩, _, _⟩ := hxA; obtain ⟨⟨iM0, iM1⟩, _, _⟩ := hxM; go_simp; try (with_reducible rfl))); (try simp only [Act.put, List.getElem_toArray, List.getElem_cons_succ, List.getElem_cons_zero, List.setIfInBounds_toArray, List.set_cons_zero, List.set_cons_succ])
            (refine wpAnyH_take (i := 9) (v := ?_) rfl (by kernel_rfl) (by kernel_rfl) (by kernel_rfl) (fun _ _ _ h => h) (Or.inl ⟨rfl, ?_⟩) (by assumption) ?_; rotate_left; focus (intro W hSw; (try dsimp only at hSw); have hxx := HXX.out _ hSw; obtain ⟨hxA, hxM⟩ := hxx; obtain ⟨l0, l1, l2, l3⟩ := HCW.out _ hSw; have hgw := World.block_lt_of_cell? _ _ l0; obtain ⟨⟨iA0, iA1⟩, _, _⟩ := hxA; obtain ⟨⟨iM0, iM1⟩, _, _⟩ := hxM; go_simp; try (with_reducible rfl))); (try simp only [Act.put, List.getElem_toArray, List.getElem_cons_succ, List.getElem_cons_zero, List.setIfInBounds_toArray, List.set_cons_zero, List.set_cons_succ])
            (refine wpAnyH_take (i := 10) (v := ?_) rfl (by kernel_rfl) (by kernel_rfl) (by kernel_rfl) (fun _ _ _ h => h) (Or.inl ⟨rfl, ?_⟩) (by assumption) ?_; rotate_left; focus (intro W hSw; (try dsimp only at hSw); have hxx := HXX.out _ hSw; obtain ⟨hxA, hxM⟩ := hxx; obtain ⟨l0, l1, l2, l3⟩ := HCW.out _ hSw; have hgw := World.block_lt_of_cell? _ _ l0; obtain ⟨⟨iA0, iA1⟩, _, _⟩ := hxA; obtain ⟨⟨iM0, iM1⟩, _, _⟩ := hxM; go_simp; try (with_reducible rfl))); (try simp only [Act.put, List.getElem_toArray, List.getElem_cons_succ, List.getElem_cons_zero, List.setIfInBounds_toArray, List.set_cons_zero, List.set_cons_succ])
            (refine wpAnyH_take (i := 11) (v := ?_) rfl (by kernel_rfl) (by kernel_rfl) (by kernel_rfl) (fun _ _ _ h => h) (Or.inl ⟨rfl, ?_⟩) (by assumption) ?_; rotate_left; focus (intro W hSw; (try dsimp only at hSw); have hxx := HXX.out _ hSw; obtain ⟨hxA, hxM⟩ := hxx; obtain ⟨l0, l1, l2, l3⟩ := HCW.out _ hSw; have hgw := World.block_lt_of_cell? _ _ l0; obtain ⟨⟨iA0, iA1⟩, _, _⟩ := hxA; obtain ⟨⟨iM0, iM1⟩, _, _⟩ := hxM; go_simp; try (with_reducible rfl))); (try simp only [Act.put, List.getElem_toArray, List.getElem_cons_succ, List.getElem_cons_zero, List.setIfInBounds_toArray, List.set_cons_zero, List.set_cons_succ])
            refine wpAnyH_done (by kernel_rfl) ?_ _
            have hHeld0 := hHeld
            have HB := Lib.hid (HB.out.trans (hHeld.mono HB.out.size))
            clear hHeld HXX
            have HBZ := Lib.hid (below_after hHeld0 HBZ.out)
            clear hHeld0 HCW
            have HCW : Hid (∀ W, Below ywr21x0.heap.size ywr21x0 W → W.cell? ⟨gv, 0, none⟩ = some (.int .i64 p0) ∧ W.cell? ⟨gv, 1, none⟩ = some (.int .i64 p1) ∧ W.cell? ⟨gv, 2, none⟩ = some (.int .i64 q0) ∧ W.cell? ⟨gv, 3, none⟩ = some (.int .i64 q1)) := fun W hW => HCV.out W (below_after hW HBZ.out)
            have HXX : Hid (∀ W, Below ywr21x0.heap.size ywr21x0 W → Bk2 W GA x0 y0 ∧ Bk2 W GM x1 y1) := fun W hW => ⟨HA.out.below hW, HM.out.below hW⟩
            go_wp2_with fail
            refine wp_region_held_drew (S := fun W => Below ywr21x0.heap.size ywr21x0 W) (by kernel_rfl) ?_ (fun hHeld => ?_); focus ((try dsimp only); exact (Below.refl _ _).drew)
            have HA := Lib.hid (HA.out.below (Below.drew (Below.refl _ _)))
            have HM := Lib.hid (HM.out.below (Below.drew (Below.refl _ _)))
            have HV1 := Lib.hid (HV1.out.below (Below.drew (Below.refl _ _)))
            have hHeld : Below ywr21x0.heap.size ywr21x0 _ := hHeld
            obtain ⟨wD71, hwD71⟩ : ∃ wD, ywr21x0.drew = wD := ⟨_, rfl⟩
            rw [hwD71] at hHeld HA HM HV1 ⊢
            clear hwD71
            (refine wpAnyH_take (i := 0) (v := ?_) rfl (by kernel_rfl) (by kernel_rfl) (by kernel_rfl) (fun _ _ _ h => h) (Or.inl ⟨rfl, ?_⟩) (by assumption) ?_; rotate_left; focus (intro W hSw; (try dsimp only at hSw); have hxx := HXX.out _ hSw; obtain ⟨hxA, hxM⟩ := hxx; obtain ⟨l0, l1, l2, l3⟩ := HCW.out _ hSw; have hgw := World.block_lt_of_cell? _ _ l0; obtain ⟨⟨iA0, iA1⟩, _, _⟩ := hxA; obtain ⟨⟨iM0, iM1⟩, _, _⟩ := hxM; go_simp; try (with_reducible rfl))); (try simp only [Act.put, List.getElem_toArray, List.getElem_cons_succ, List.getElem_cons_zero, List.setIfInBounds_toArray, List.set_cons_zero, List.set_cons_succ])
            (refine wpAnyH_take (i := 1) (v := ?_) rfl (by kernel_rfl) (by kernel_rfl) (by kernel_rfl) (fun _ _ _ h => h) (Or.inl ⟨rfl, ?_⟩) (by assumption) ?_; rotate_left; focus (intro W hSw; (try dsimp only at hSw); have hxx := HXX.out _ hSw; obtain ⟨hxA, hxM⟩ := hxx; obtain ⟨l0, l1, l2, l3⟩ := HCW.out _ hSw; have hgw := World.block_lt_of_cell? _ _ l0; obtain ⟨⟨iA0, iA1⟩, _, _⟩ := hxA; obtain ⟨⟨iM0, iM1⟩, _, _⟩ := hxM; go_simp; try (with_reducible rfl))); (try simp only [Act.put, List.getElem_toArray, List.getElem_cons_succ, List.getElem_cons_zero, List.setIfInBounds_toArray, List.set_cons_zero, List.set_cons_succ])
            (refine wpAnyH_take (i := 2) (v := ?_) rfl (by kernel_rfl) (by kernel_rfl) (by kernel_rfl) (fun _ _ _ h => h) (Or.inl ⟨rfl, ?_⟩) (by assumption) ?_; rotate_left; focus (intro W hSw; (try dsimp only at hSw); have hxx := HXX.out _ hSw; obtain ⟨hxA, hxM⟩ := hxx; obtain ⟨l0, l1, l2, l3⟩ := HCW.out _ hSw; have hgw := World.block_lt_of_cell? _ _ l0; obtain ⟨⟨iA0, iA1⟩, _, _⟩ := hxA; obtain ⟨⟨iM0, iM1⟩, _, _⟩ := hxM; go_simp; try (with_reducible rfl))); (try simp only [Act.put, List.getElem_toArray, List.getElem_cons_succ, List.getElem_cons_zero, List.setIfInBounds_toArray, List.set_cons_zero, List.set_cons_succ])
            (refine wpAnyH_take (i := 3) (v := ?_) rfl (by kernel_rfl) (by kernel_rfl) (by kernel_rfl) (fun _ _ _ h => h) (Or.inl ⟨rfl, ?_⟩) (by assumption) ?_; rotate_left; focus (intro W hSw; (try dsimp only at hSw); have hxx := HXX.out _ hSw; obtain ⟨hxA, hxM⟩ := hxx; obtain ⟨l0, l1, l2, l3⟩ := HCW.out _ hSw; have hgw := World.block_lt_of_cell? _ _ l0; obtain ⟨⟨iA0, iA1⟩, _, _⟩ := hxA; obtain ⟨⟨iM0, iM1⟩, _, _⟩ := hxM; go_simp; try (with_reducible rfl))); (try simp only [Act.put, List.getElem_toArray, List.getElem_cons_succ, List.getElem_cons_zero, List.setIfInBounds_toArray, List.set_cons_zero, List.set_cons_succ])
            (refine wpAnyH_take (i := 4) (v := ?_) rfl (by kernel_rfl) (by kernel_rfl) (by kernel_rfl) (fun _ _ _ h => h) (Or.inl ⟨rfl, ?_⟩) (by assumption) ?_; rotate_left; focus (intro W hSw; (try dsimp only at hSw); have hxx := HXX.out _ hSw; obtain ⟨hxA, hxM⟩ := hxx; obtain ⟨l0, l1, l2, l3⟩ := HCW.out _ hSw; have hgw := World.block_lt_of_cell? _ _ l0; obtain ⟨⟨iA0, iA1⟩, _, _⟩ := hxA; obtain ⟨⟨iM0, iM1⟩, _, _⟩ := hxM; go_simp; try (with_reducible rfl))); (try simp only [Act.put, List.getElem_toArray, List.getElem_cons_succ, List.getElem_cons_zero, List.setIfInBounds_toArray, List.set_cons_zero, List.set_cons_succ])
            (refine wpAnyH_take (i := 5) (v := ?_) rfl (by kernel_rfl) (by kernel_rfl) (by kernel_rfl) (fun _ _ _ h => h) (Or.inl ⟨rfl, ?_⟩) (by assumption) ?_; rotate_left; focus (intro W hSw; (try dsimp only at hSw); have hxx := HXX.out _ hSw; obtain ⟨hxA, hxM⟩ := hxx; obtain ⟨l0, l1, l2, l3⟩ := HCW.out _ hSw; have hgw := World.block_lt_of_cell? _ _ l0; obtain ⟨⟨iA0, iA1⟩, _, _⟩ := hxA; obtain ⟨⟨iM0, iM1⟩, _, _⟩ := hxM; go_simp; try (with_reducible rfl))); (try simp only [Act.put, List.getElem_toArray, List.getElem_cons_succ, List.getElem_cons_zero, List.setIfInBounds_toArray, List.set_cons_zero, List.set_cons_succ])
            refine wpAnyH_ready (rs := [6]) (by kernel_rfl) (by simp) ?_; refine AllReadyH.cons rfl (fun K hK => ?_) AllReadyH.nil
            go_simp; (go_at_call 10; refine (IR.out _).mono ?_; rintro en ywr71x0 ⟨rfl, hb2⟩); have HA := Lib.hid (HA.out.below hb2); have HM := Lib.hid (HM.out.below hb2); have HV1 := Lib.hid (HV1.out.below hb2); refine hK.out _ _ (below_after hb2 hHeld) (fun hHeld2 => ?_); clear hb2; (clear hHeld; rename _ => hHeld; clear hK K; have hHeld : Below ywr21x0.heap.size ywr21x0 _ := hHeld); (try simp only [Act.put, List.getElem_toArray, List.getElem_cons_succ, List.getElem_cons_zero, List.setIfInBounds_toArray, List.set_cons_zero, List.set_cons_succ])
            (refine wpAnyH_take (i := 7) (v := ?_) rfl (by kernel_rfl) (by kernel_rfl) (by kernel_rfl) (fun _ _ _ h => h) (Or.inl ⟨rfl, ?_⟩) (by assumption) ?_; rotate_left; focus (intro W hSw; (try dsimp only at hSw); have hxx := HXX.out _ hSw; obtain ⟨hxA, hxM⟩ := hxx; obtain ⟨l0, l1, l2, l3⟩ := HCW.out _ hSw; have hgw := World.block_lt_of_cell? _ _ l0; obtain ⟨⟨iA0, iA1⟩, _, _⟩ := hxA; obtain ⟨⟨iM0, iM1⟩, _, _⟩ := hxM; go_simp; try (with_reducible rfl))); (try simp only [Act.put, List.getElem_toArray, List.getElem_cons_succ, List.getElem_cons_zero, List.setIfInBounds_toArray, List.set_cons_zero, List.set_cons_succ])
            (refine wpAnyH_take (i := 8) (v := ?_) rfl (by kernel_rfl) (by kernel_rfl) (by kernel_rfl) (fun _ _ _ h => h) (Or.inl ⟨rfl, ?_⟩) (by assumption) ?_; rotate_left; focus (intro W hSw; (try dsimp only at hSw); have hxx := HXX.out _ hSw; obtain ⟨hxA, hxM⟩ := hxx; obtain ⟨l0, l1, l2, l3⟩ := HCW.out _ hSw; have hgw := World.block_lt_of_cell? _ _ l0; obtain ⟨⟨iA0, iA1⟩, _, _⟩ := hxA; obtain ⟨⟨iM0, iM1⟩, _, _⟩ := hxM; go_simp; try (with_reducible rfl))); (try simp only [Act.put, List.getElem_toArray, List.getElem_cons_succ, List.getElem_cons_zero, List.setIfInBounds_toArray, List.set_cons_zero, List.set_cons_succ])
            (refine wpAnyH_take (i := 9) (v := ?_) rfl (by kernel_rfl) (by kernel_rfl) (by kernel_rfl) (fun _ _ _ h => h) (Or.inl ⟨rfl, ?_⟩) (by assumption) ?_; rotate_left; focus (intro W hSw; (try dsimp only at hSw); have hxx := HXX.out _ hSw; obtain ⟨hxA, hxM⟩ := hxx; obtain ⟨l0, l1, l2, l3⟩ := HCW.out _ hSw; have hgw := World.block_lt_of_cell? _ _ l0; obtain ⟨⟨iA0, iA1⟩, _, _⟩ := hxA; obtain ⟨⟨iM0, iM1⟩, _, _⟩ := hxM; go_simp; try (with_reducible rfl))); (try simp only [Act.put, List.getElem_toArray, List.getElem_cons_succ, List.getElem_cons_zero, List.setIfInBounds_toArray, List.set_cons_zero, List.set_cons_succ])
            (refine wpAnyH_take (i := 10) (v := ?_) rfl (by kernel_rfl) (by kernel_rfl) (by kernel_rfl) (fun _ _ _ h => h) (Or.inl ⟨rfl, ?_⟩) (by assumption) ?_; rotate_left; focus (intro W hSw; (try dsimp only at hSw); have hxx := HXX.out _ hSw; obtain ⟨hxA, hxM⟩ := hxx; obtain ⟨l0, l1, l2, l3⟩ := HCW.out _ hSw; have hgw := World.block_lt_of_cell? _ _ l0; obtain ⟨⟨iA0, iA1⟩, _, _⟩ := hxA; obtain ⟨⟨iM0, iM1⟩, _, _⟩ := hxM; go_simp; try (with_reducible rfl))); (try simp only [Act.put, List.getElem_toArray, List.getElem_cons_succ, List.getElem_cons_zero, List.setIfInBounds_toArray, List.set_cons_zero, List.set_cons_succ])
            (refine wpAnyH_take (i := 11) (v := ?_) rfl (by kernel_rfl) (by kernel_rfl) (by kernel_rfl) (fun _ _ _ h => h) (Or.inl ⟨rfl, ?_⟩) (by assumption) ?_; rotate_left; focus (intro W hSw; (try dsimp only at hSw); have hxx := HXX.out _ hSw; obtain ⟨hxA, hxM⟩ := hxx; obtain ⟨l0, l1, l2, l3⟩ := HCW.out _ hSw; have hgw := World.block_lt_of_cell? _ _ l0; obtain ⟨⟨iA0, iA1⟩, _, _⟩ := hxA; obtain ⟨⟨iM0, iM1⟩, _, _⟩ := hxM; go_simp; try (with_reducible rfl))); (try simp only [Act.put, List.getElem_toArray, List.getElem_cons_succ, List.getElem_cons_zero, List.setIfInBounds_toArray, List.set_cons_zero, List.set_cons_succ])
            refine wpAnyH_done (by kernel_rfl) ?_ _
            have hHeld0 := hHeld
            have HB := Lib.hid (HB.out.trans (hHeld.mono HB.out.size))
            clear hHeld HXX
            have HBZ := Lib.hid (below_after hHeld0 HBZ.out)
            clear hHeld0 HCW
            obtain ⟨⟨qA0, qA1⟩, ⟨fA0, fA1⟩, zA⟩ := HA.out
            obtain ⟨⟨qM0, qM1⟩, ⟨fM0, fM1⟩, zM⟩ := HM.out
            obtain ⟨l0, l1, l2, l3⟩ := HCV.out _ HBZ.out
            have hgw := World.block_lt_of_cell? _ _ l0
            go_wp2_with fail
            go_at_call 19
            refine (IP.out _).mono ?_
            rintro e wy ⟨rfl, hy⟩
            obtain ⟨l0, l1, l2, l3⟩ := HCV.out _ (below_after hy HBZ.out)
            have hgw := World.block_lt_of_cell? _ _ l0
            go_wp2_with fail
            go_at_call 19
            refine (IQ.out _).mono ?_
            rintro e wz ⟨rfl, hz⟩
            have hmm : max D1 (-D1) = max D2 (-D2) := hma.out.trans hmb.out.symm
            go_wp2_with fail
            go_ret
            exact ⟨by first | (have e1 := hwa.out; have e2 := hwb.out; have e3 := hma.out; have e4 := hmb.out; simp [e1, e2, e3, e4]; done) | simp, below_after hz (below_after hy HB.out)⟩
      · skip
        have hN0 : N1 = 0 := by
          have := HN1.out
          unfold rpL at this
          rw [HC1.out, if_neg h1] at this
          exact this.symm
        subst hN0
        have hne : (c1 != 0) = true := by simp [h1]
        obtain ⟨⟨qA0, qA1⟩, ⟨fA0, fA1⟩, zA⟩ := HA.out
        obtain ⟨⟨qM0, qM1⟩, ⟨fM0, fM1⟩, zM⟩ := HM.out
        go_wp2_with fail
        go_ret
        have hb := HB.out
        exact ⟨by first | rfl | simp, hb⟩
    · skip
      clear HE HF
      have hne3 : (c3 == 0) = false := by simp [h3]
      clear HC3 HS3
      by_cases h1 : c1 = 0
      · subst h1
        obtain ⟨⟨k0, k1⟩, hd⟩ := prC_ok HC1.out
        have hk := rdOk_of k0 k1 hd
        have hko := rdV_ok hk
        have hred := rdV_red hk
        have hdet := rdV_det ((x0, y0), (x1, y1))
        obtain ⟨⟨⟨p0, p1⟩, ⟨q0, q1⟩⟩, hV⟩ : ∃ V, rdV ((x0, y0), (x1, y1)) = V := ⟨_, rfl⟩
        have hrl : rpL x0 y0 x1 y1 = [(p0, p1), (q0, q1)] := by unfold rpL; rw [if_pos HC1.out, hV]
        have hN := HN1.out
        have hZ := HZ1.out
        rw [hrl] at hN hZ
        rw [hV] at hred hdet hko
        dsimp only at hred hdet
        have hN : N1 = 2 := hN.symm
        have hZ : zs1 = [p0, p1, q0, q1] := hZ.symm
        subst hN
        subst hZ
        obtain ⟨b1, b2'⟩ := det_pt k0 k1
        have ID := Lib.hid (fun w => impl_DeterminantOf_yes x0 y0 x1 y1 w k0 k1)
        obtain ⟨D1, hD1⟩ : ∃ D, detP (x0, y0) (x1, y1) = D := ⟨_, rfl⟩
        rw [hD1] at ID hd hdet b1 b2'
        have IR := Lib.hid (fun w => impl_IsReducedPair_any p0 p1 q0 q1 w)
        have IP := Lib.hid (fun w => isPoint_any p0 p1 w)
        have IQ := Lib.hid (fun w => isPoint_any q0 q1 w)
        have hdk := hko.det
        dsimp only at hdk
        obtain ⟨xa, xc, hxe, hxf⟩ := own_viewF HV1.out
        simp only [Value.slice.injEq] at hxe
        obtain ⟨rfl, _, rfl⟩ := hxe
        obtain ⟨gv, rfl, _, hgv, hcv, _⟩ := hxf (by omega)
        have HCV : Hid (∀ W, Below w18.heap.size w18 W → W.cell? ⟨gv, 0, none⟩ = some (.int .i64 p0) ∧ W.cell? ⟨gv, 1, none⟩ = some (.int .i64 p1) ∧ W.cell? ⟨gv, 2, none⟩ = some (.int .i64 q0) ∧ W.cell? ⟨gv, 3, none⟩ = some (.int .i64 q1)) := fun W hW => ⟨(hW.cell (p := ⟨gv, 0, none⟩) hgv).trans (hcv 0 (by omega)), (hW.cell (p := ⟨gv, 1, none⟩) hgv).trans (hcv 1 (by omega)), (hW.cell (p := ⟨gv, 2, none⟩) hgv).trans (hcv 2 (by omega)), (hW.cell (p := ⟨gv, 3, none⟩) hgv).trans (hcv 3 (by omega))⟩
        have HBW0 : Hid (Below w18.heap.size w18 w18) := Below.refl _ _
        clear hk hko hV hrl hD1 hxf hcv k0 k1 hgv
        obtain ⟨⟨qA0, qA1⟩, ⟨fA0, fA1⟩, zA⟩ := HA.out
        obtain ⟨⟨qM0, qM1⟩, ⟨fM0, fM1⟩, zM⟩ := HM.out
        go_wp2_with fail
        go_at_call 18
        refine (ID.out _).mono ?_
        rintro e w19 ⟨rfl, hb⟩
        clear qA0 fA0 qA1 fA1 zA qM0 fM0 qM1 fM1 zM
        have HA := Lib.hid (HA.out.below hb)
        have HM := Lib.hid (HM.out.below hb)
        have HV1 := Lib.hid (HV1.out.below hb)
        have HBQ : Hid (Below w18.heap.size w18 _) := hb
        have HB := Lib.hid (below_after hb HB.out)
        clear hb
        clear HBW0
        cases hp : isPt (p0, p1)
        · skip
          have hno : (isPt (p0, p1) && isPt (q0, q1)) = false := by rw [hp]; rfl
          have IE := Lib.hid (fun w => impl_DeterminantOf_no p0 p1 q0 q1 w hno)
          have hpc : prC p0 p1 q0 q1 = 1 := by unfold prC; rw [hno]; rfl
          have hpv : rpV p0 p1 q0 q1 = false := by unfold rpV; rw [if_neg (by rw [hpc]; decide)]
          rw [hpc, hpv] at IR
          rw [hp] at IP
          clear hpc hpv hdk hred hp hd hdet hno
          have HBZ : Hid (Below w18.heap.size w18 w19) := HBQ.out
          have HCW : Hid (∀ W, Below w19.heap.size w19 W → W.cell? ⟨gv, 0, none⟩ = some (.int .i64 p0) ∧ W.cell? ⟨gv, 1, none⟩ = some (.int .i64 p1) ∧ W.cell? ⟨gv, 2, none⟩ = some (.int .i64 q0) ∧ W.cell? ⟨gv, 3, none⟩ = some (.int .i64 q1)) := fun W hW => HCV.out W (below_after hW HBZ.out)
          have HXX : Hid (∀ W, Below w19.heap.size w19 W → Bk2 W GA x0 y0 ∧ Bk2 W GM x1 y1) := fun W hW => ⟨HA.out.below hW, HM.out.below hW⟩
          go_wp2_with fail
          refine wp_region_held_drew (S := fun W => Below w19.heap.size w19 W) (by kernel_rfl) ?_ (fun hHeld => ?_); focus ((try dsimp only); exact (Below.refl _ _).drew)
          have HA := Lib.hid (HA.out.below (Below.drew (Below.refl _ _)))
          have HM := Lib.hid (HM.out.below (Below.drew (Below.refl _ _)))
          have HV1 := Lib.hid (HV1.out.below (Below.drew (Below.refl _ _)))
          have hHeld : Below w19.heap.size w19 _ := hHeld
          obtain ⟨wD19, hwD19⟩ : ∃ wD, w19.drew = wD := ⟨_, rfl⟩
          rw [hwD19] at hHeld HA HM HV1 ⊢
          clear hwD19
          (refine wpAnyH_take (i := 0) (v := ?_) rfl (by kernel_rfl) (by kernel_rfl) (by kernel_rfl) (fun _ _ _ h => h) (Or.inl ⟨rfl, ?_⟩) (by assumption) ?_; rotate_left; focus (intro W hSw; (try dsimp only at hSw); have hxx := HXX.out _ hSw; obtain ⟨hxA, hxM⟩ := hxx; obtain ⟨l0, l1, l2, l3⟩ := HCW.out _ hSw; have hgw := World.block_lt_of_cell? _ _ l0; obtain ⟨⟨iA0, iA1⟩, _, _⟩ := hxA; obtain ⟨⟨iM0, iM1⟩, _, _⟩ := hxM; go_simp; try (with_reducible rfl))); (try simp only [Act.put, List.getElem_toArray, List.getElem_cons_succ, List.getElem_cons_zero, List.setIfInBounds_toArray, List.set_cons_zero, List.set_cons_succ])
          (refine wpAnyH_take (i := 1) (v := ?_) rfl (by kernel_rfl) (by kernel_rfl) (by kernel_rfl) (fun _ _ _ h => h) (Or.inl ⟨rfl, ?_⟩) (by assumption) ?_; rotate_left; focus (intro W hSw; (try dsimp only at hSw); have hxx := HXX.out _ hSw; obtain ⟨hxA, hxM⟩ := hxx; obtain ⟨l0, l1, l2, l3⟩ := HCW.out _ hSw; have hgw := World.block_lt_of_cell? _ _ l0; obtain ⟨⟨iA0, iA1⟩, _, _⟩ := hxA; obtain ⟨⟨iM0, iM1⟩, _, _⟩ := hxM; go_simp; try (with_reducible rfl))); (try simp only [Act.put, List.getElem_toArray, List.getElem_cons_succ, List.getElem_cons_zero, List.setIfInBounds_toArray, List.set_cons_zero, List.set_cons_succ])
          (refine wpAnyH_take (i := 2) (v := ?_) rfl (by kernel_rfl) (by kernel_rfl) (by kernel_rfl) (fun _ _ _ h => h) (Or.inl ⟨rfl, ?_⟩) (by assumption) ?_; rotate_left; focus (intro W hSw; (try dsimp only at hSw); have hxx := HXX.out _ hSw; obtain ⟨hxA, hxM⟩ := hxx; obtain ⟨l0, l1, l2, l3⟩ := HCW.out _ hSw; have hgw := World.block_lt_of_cell? _ _ l0; obtain ⟨⟨iA0, iA1⟩, _, _⟩ := hxA; obtain ⟨⟨iM0, iM1⟩, _, _⟩ := hxM; go_simp; try (with_reducible rfl))); (try simp only [Act.put, List.getElem_toArray, List.getElem_cons_succ, List.getElem_cons_zero, List.setIfInBounds_toArray, List.set_cons_zero, List.set_cons_succ])
          (refine wpAnyH_take (i := 3) (v := ?_) rfl (by kernel_rfl) (by kernel_rfl) (by kernel_rfl) (fun _ _ _ h => h) (Or.inl ⟨rfl, ?_⟩) (by assumption) ?_; rotate_left; focus (intro W hSw; (try dsimp only at hSw); have hxx := HXX.out _ hSw; obtain ⟨hxA, hxM⟩ := hxx; obtain ⟨l0, l1, l2, l3⟩ := HCW.out _ hSw; have hgw := World.block_lt_of_cell? _ _ l0; obtain ⟨⟨iA0, iA1⟩, _, _⟩ := hxA; obtain ⟨⟨iM0, iM1⟩, _, _⟩ := hxM; go_simp; try (with_reducible rfl))); (try simp only [Act.put, List.getElem_toArray, List.getElem_cons_succ, List.getElem_cons_zero, List.setIfInBounds_toArray, List.set_cons_zero, List.set_cons_succ])
          (refine wpAnyH_take (i := 4) (v := ?_) rfl (by kernel_rfl) (by kernel_rfl) (by kernel_rfl) (fun _ _ _ h => h) (Or.inl ⟨rfl, ?_⟩) (by assumption) ?_; rotate_left; focus (intro W hSw; (try dsimp only at hSw); have hxx := HXX.out _ hSw; obtain ⟨hxA, hxM⟩ := hxx; obtain ⟨l0, l1, l2, l3⟩ := HCW.out _ hSw; have hgw := World.block_lt_of_cell? _ _ l0; obtain ⟨⟨iA0, iA1⟩, _, _⟩ := hxA; obtain ⟨⟨iM0, iM1⟩, _, _⟩ := hxM; go_simp; try (with_reducible rfl))); (try simp only [Act.put, List.getElem_toArray, List.getElem_cons_succ, List.getElem_cons_zero, List.setIfInBounds_toArray, List.set_cons_zero, List.set_cons_succ])
          (refine wpAnyH_take (i := 5) (v := ?_) rfl (by kernel_rfl) (by kernel_rfl) (by kernel_rfl) (fun _ _ _ h => h) (Or.inl ⟨rfl, ?_⟩) (by assumption) ?_; rotate_left; focus (intro W hSw; (try dsimp only at hSw); have hxx := HXX.out _ hSw; obtain ⟨hxA, hxM⟩ := hxx; obtain ⟨l0, l1, l2, l3⟩ := HCW.out _ hSw; have hgw := World.block_lt_of_cell? _ _ l0; obtain ⟨⟨iA0, iA1⟩, _, _⟩ := hxA; obtain ⟨⟨iM0, iM1⟩, _, _⟩ := hxM; go_simp; try (with_reducible rfl))); (try simp only [Act.put, List.getElem_toArray, List.getElem_cons_succ, List.getElem_cons_zero, List.setIfInBounds_toArray, List.set_cons_zero, List.set_cons_succ])
          refine wpAnyH_ready (rs := [6]) (by kernel_rfl) (by simp) ?_; refine AllReadyH.cons rfl (fun K hK => ?_) AllReadyH.nil
          go_simp; (go_at_call 18; refine (IE.out _).mono ?_; rintro en ywr19x0 ⟨rfl, hb2⟩); have HA := Lib.hid (HA.out.below hb2); have HM := Lib.hid (HM.out.below hb2); have HV1 := Lib.hid (HV1.out.below hb2); refine hK.out _ _ (below_after hb2 hHeld) (fun hHeld2 => ?_); clear hb2; (clear hHeld; rename _ => hHeld; clear hK K; have hHeld : Below w19.heap.size w19 _ := hHeld); (try simp only [Act.put, List.getElem_toArray, List.getElem_cons_succ, List.getElem_cons_zero, List.setIfInBounds_toArray, List.set_cons_zero, List.set_cons_succ])
          (refine wpAnyH_take (i := 7) (v := ?_) rfl (by kernel_rfl) (by kernel_rfl) (by kernel_rfl) (fun _ _ _ h => h) (Or.inl ⟨rfl, ?_⟩) (by assumption) ?_; rotate_left; focus (intro W hSw; (try dsimp only at hSw); have hxx := HXX.out _ hSw; obtain ⟨hxA, hxM⟩ := hxx; obtain ⟨l0, l1, l2, l3⟩ := HCW.out _ hSw; have hgw := World.block_lt_of_cell? _ _ l0; obtain ⟨⟨iA0, iA1⟩, _, _⟩ := hxA; obtain ⟨⟨iM0, iM1⟩, _, _⟩ := hxM; go_simp; try (with_reducible rfl))); (try simp only [Act.put, List.getElem_toArray, List.getElem_cons_succ, List.getElem_cons_zero, List.setIfInBounds_toArray, List.set_cons_zero, List.set_cons_succ])
          (refine wpAnyH_take (i := 8) (v := ?_) rfl (by kernel_rfl) (by kernel_rfl) (by kernel_rfl) (fun _ _ _ h => h) (Or.inl ⟨rfl, ?_⟩) (by assumption) ?_; rotate_left; focus (intro W hSw; (try dsimp only at hSw); have hxx := HXX.out _ hSw; obtain ⟨hxA, hxM⟩ := hxx; obtain ⟨l0, l1, l2, l3⟩ := HCW.out _ hSw; have hgw := World.block_lt_of_cell? _ _ l0; obtain ⟨⟨iA0, iA1⟩, _, _⟩ := hxA; obtain ⟨⟨iM0, iM1⟩, _, _⟩ := hxM; go_simp; try (with_reducible rfl))); (try simp only [Act.put, List.getElem_toArray, List.getElem_cons_succ, List.getElem_cons_zero, List.setIfInBounds_toArray, List.set_cons_zero, List.set_cons_succ])
          (refine wpAnyH_take (i := 9) (v := ?_) rfl (by kernel_rfl) (by kernel_rfl) (by kernel_rfl) (fun _ _ _ h => h) (Or.inl ⟨rfl, ?_⟩) (by assumption) ?_; rotate_left; focus (intro W hSw; (try dsimp only at hSw); have hxx := HXX.out _ hSw; obtain ⟨hxA, hxM⟩ := hxx; obtain ⟨l0, l1, l2, l3⟩ := HCW.out _ hSw; have hgw := World.block_lt_of_cell? _ _ l0; obtain ⟨⟨iA0, iA1⟩, _, _⟩ := hxA; obtain ⟨⟨iM0, iM1⟩, _, _⟩ := hxM; go_simp; try (with_reducible rfl))); (try simp only [Act.put, List.getElem_toArray, List.getElem_cons_succ, List.getElem_cons_zero, List.setIfInBounds_toArray, List.set_cons_zero, List.set_cons_succ])
          (refine wpAnyH_take (i := 10) (v := ?_) rfl (by kernel_rfl) (by kernel_rfl) (by kernel_rfl) (fun _ _ _ h => h) (Or.inl ⟨rfl, ?_⟩) (by assumption) ?_; rotate_left; focus (intro W hSw; (try dsimp only at hSw); have hxx := HXX.out _ hSw; obtain ⟨hxA, hxM⟩ := hxx; obtain ⟨l0, l1, l2, l3⟩ := HCW.out _ hSw; have hgw := World.block_lt_of_cell? _ _ l0; obtain ⟨⟨iA0, iA1⟩, _, _⟩ := hxA; obtain ⟨⟨iM0, iM1⟩, _, _⟩ := hxM; go_simp; try (with_reducible rfl))); (try simp only [Act.put, List.getElem_toArray, List.getElem_cons_succ, List.getElem_cons_zero, List.setIfInBounds_toArray, List.set_cons_zero, List.set_cons_succ])
          (refine wpAnyH_take (i := 11) (v := ?_) rfl (by kernel_rfl) (by kernel_rfl) (by kernel_rfl) (fun _ _ _ h => h) (Or.inl ⟨rfl, ?_⟩) (by assumption) ?_; rotate_left; focus (intro W hSw; (try dsimp only at hSw); have hxx := HXX.out _ hSw; obtain ⟨hxA, hxM⟩ := hxx; obtain ⟨l0, l1, l2, l3⟩ := HCW.out _ hSw; have hgw := World.block_lt_of_cell? _ _ l0; obtain ⟨⟨iA0, iA1⟩, _, _⟩ := hxA; obtain ⟨⟨iM0, iM1⟩, _, _⟩ := hxM; go_simp; try (with_reducible rfl))); (try simp only [Act.put, List.getElem_toArray, List.getElem_cons_succ, List.getElem_cons_zero, List.setIfInBounds_toArray, List.set_cons_zero, List.set_cons_succ])
          refine wpAnyH_done (by kernel_rfl) ?_ _
          have hHeld0 := hHeld
          have HB := Lib.hid (HB.out.trans (hHeld.mono HB.out.size))
          clear hHeld HXX
          have HBZ := Lib.hid (below_after hHeld0 HBZ.out)
          clear hHeld0 HCW
          have HCW : Hid (∀ W, Below ywr19x0.heap.size ywr19x0 W → W.cell? ⟨gv, 0, none⟩ = some (.int .i64 p0) ∧ W.cell? ⟨gv, 1, none⟩ = some (.int .i64 p1) ∧ W.cell? ⟨gv, 2, none⟩ = some (.int .i64 q0) ∧ W.cell? ⟨gv, 3, none⟩ = some (.int .i64 q1)) := fun W hW => HCV.out W (below_after hW HBZ.out)
          have HXX : Hid (∀ W, Below ywr19x0.heap.size ywr19x0 W → Bk2 W GA x0 y0 ∧ Bk2 W GM x1 y1) := fun W hW => ⟨HA.out.below hW, HM.out.below hW⟩
          go_wp2_with fail
          refine wp_region_held_drew (S := fun W => Below ywr19x0.heap.size ywr19x0 W) (by kernel_rfl) ?_ (fun hHeld => ?_); focus ((try dsimp only); exact (Below.refl _ _).drew)
          have HA := Lib.hid (HA.out.below (Below.drew (Below.refl _ _)))
          have HM := Lib.hid (HM.out.below (Below.drew (Below.refl _ _)))
          have HV1 := Lib.hid (HV1.out.below (Below.drew (Below.refl _ _)))
          have hHeld : Below ywr19x0.heap.size ywr19x0 _ := hHeld
          obtain ⟨wD69, hwD69⟩ : ∃ wD, ywr19x0.drew = wD := ⟨_, rfl⟩
          rw [hwD69] at hHeld HA HM HV1 ⊢
          clear hwD69
          (refine wpAnyH_take (i := 0) (v := ?_) rfl (by kernel_rfl) (by kernel_rfl) (by kernel_rfl) (fun _ _ _ h => h) (Or.inl ⟨rfl, ?_⟩) (by assumption) ?_; rotate_left; focus (intro W hSw; (try dsimp only at hSw); have hxx := HXX.out _ hSw; obtain ⟨hxA, hxM⟩ := hxx; obtain ⟨l0, l1, l2, l3⟩ := HCW.out _ hSw; have hgw := World.block_lt_of_cell? _ _ l0; obtain ⟨⟨iA0, iA1⟩, _, _⟩ := hxA; obtain ⟨⟨iM0, iM1⟩, _, _⟩ := hxM; go_simp; try (with_reducible rfl))); (try simp only [Act.put, List.getElem_toArray, List.getElem_cons_succ, List.getElem_cons_zero, List.setIfInBounds_toArray, List.set_cons_zero, List.set_cons_succ])
          (refine wpAnyH_take (i := 1) (v := ?_) rfl (by kernel_rfl) (by kernel_rfl) (by kernel_rfl) (fun _ _ _ h => h) (Or.inl ⟨rfl, ?_⟩) (by assumption) ?_; rotate_left; focus (intro W hSw; (try dsimp only at hSw); have hxx := HXX.out _ hSw; obtain ⟨hxA, hxM⟩ := hxx; obtain ⟨l0, l1, l2, l3⟩ := HCW.out _ hSw; have hgw := World.block_lt_of_cell? _ _ l0; obtain ⟨⟨iA0, iA1⟩, _, _⟩ := hxA; obtain ⟨⟨iM0, iM1⟩, _, _⟩ := hxM; go_simp; try (with_reducible rfl))); (try simp only [Act.put, List.getElem_toArray, List.getElem_cons_succ, List.getElem_cons_zero, List.setIfInBounds_toArray, List.set_cons_zero, List.set_cons_succ])
          (refine wpAnyH_take (i := 2) (v := ?_) rfl (by kernel_rfl) (by kernel_rfl) (by kernel_rfl) (fun _ _ _ h => h) (Or.inl ⟨rfl, ?_⟩) (by assumption) ?_; rotate_left; focus (intro W hSw; (try dsimp only at hSw); have hxx := HXX.out _ hSw; obtain ⟨hxA, hxM⟩ := hxx; obtain ⟨l0, l1, l2, l3⟩ := HCW.out _ hSw; have hgw := World.block_lt_of_cell? _ _ l0; obtain ⟨⟨iA0, iA1⟩, _, _⟩ := hxA; obtain ⟨⟨iM0, iM1⟩, _, _⟩ := hxM; go_simp; try (with_reducible rfl))); (try simp only [Act.put, List.getElem_toArray, List.getElem_cons_succ, List.getElem_cons_zero, List.setIfInBounds_toArray, List.set_cons_zero, List.set_cons_succ])
          (refine wpAnyH_take (i := 3) (v := ?_) rfl (by kernel_rfl) (by kernel_rfl) (by kernel_rfl) (fun _ _ _ h => h) (Or.inl ⟨rfl, ?_⟩) (by assumption) ?_; rotate_left; focus (intro W hSw; (try dsimp only at hSw); have hxx := HXX.out _ hSw; obtain ⟨hxA, hxM⟩ := hxx; obtain ⟨l0, l1, l2, l3⟩ := HCW.out _ hSw; have hgw := World.block_lt_of_cell? _ _ l0; obtain ⟨⟨iA0, iA1⟩, _, _⟩ := hxA; obtain ⟨⟨iM0, iM1⟩, _, _⟩ := hxM; go_simp; try (with_reducible rfl))); (try simp only [Act.put, List.getElem_toArray, List.getElem_cons_succ, List.getElem_cons_zero, List.setIfInBounds_toArray, List.set_cons_zero, List.set_cons_succ])
          (refine wpAnyH_take (i := 4) (v := ?_) rfl (by kernel_rfl) (by kernel_rfl) (by kernel_rfl) (fun _ _ _ h => h) (Or.inl ⟨rfl, ?_⟩) (by assumption) ?_; rotate_left; focus (intro W hSw; (try dsimp only at hSw); have hxx := HXX.out _ hSw; obtain ⟨hxA, hxM⟩ := hxx; obtain ⟨l0, l1, l2, l3⟩ := HCW.out _ hSw; have hgw := World.block_lt_of_cell? _ _ l0; obtain ⟨⟨iA0, iA1⟩, _, _⟩ := hxA; obtain ⟨⟨iM0, iM1⟩, _, _⟩ := hxM; go_simp; try (with_reducible rfl))); (try simp only [Act.put, List.getElem_toArray, List.getElem_cons_succ, List.getElem_cons_zero, List.setIfInBounds_toArray, List.set_cons_zero, List.set_cons_succ])
          (refine wpAnyH_take (i := 5) (v := ?_) rfl (by kernel_rfl) (by kernel_rfl) (by kernel_rfl) (fun _ _ _ h => h) (Or.inl ⟨rfl, ?_⟩) (by assumption) ?_; rotate_left; focus (intro W hSw; (try dsimp only at hSw); have hxx := HXX.out _ hSw; obtain ⟨hxA, hxM⟩ := hxx; obtain ⟨l0, l1, l2, l3⟩ := HCW.out _ hSw; have hgw := World.block_lt_of_cell? _ _ l0; obtain ⟨⟨iA0, iA1⟩, _, _⟩ := hxA; obtain ⟨⟨iM0, iM1⟩, _, _⟩ := hxM; go_simp; try (with_reducible rfl))); (try simp only [Act.put, List.getElem_toArray, List.getElem_cons_succ, List.getElem_cons_zero, List.setIfInBounds_toArray, List.set_cons_zero, List.set_cons_succ])
          refine wpAnyH_ready (rs := [6]) (by kernel_rfl) (by simp) ?_; refine AllReadyH.cons rfl (fun K hK => ?_) AllReadyH.nil
          go_simp; (go_at_call 10; refine (IR.out _).mono ?_; rintro en ywr69x0 ⟨rfl, hb2⟩); have HA := Lib.hid (HA.out.below hb2); have HM := Lib.hid (HM.out.below hb2); have HV1 := Lib.hid (HV1.out.below hb2); refine hK.out _ _ (below_after hb2 hHeld) (fun hHeld2 => ?_); clear hb2; (clear hHeld; rename _ => hHeld; clear hK K; have hHeld : Below ywr19x0.heap.size ywr19x0 _ := hHeld); (try simp only [Act.put, List.getElem_toArray, List.getElem_cons_succ, List.getElem_cons_zero, List.setIfInBounds_toArray, List.set_cons_zero, List.set_cons_succ])
          (refine wpAnyH_take (i := 7) (v := ?_) rfl (by kernel_rfl) (by kernel_rfl) (by kernel_rfl) (fun _ _ _ h => h) (Or.inl ⟨rfl, ?_⟩) (by assumption) ?_; rotate_left; focus (intro W hSw; (try dsimp only at hSw); have hxx := HXX.out _ hSw; obtain ⟨hxA, hxM⟩ := hxx; obtain ⟨l0, l1, l2, l3⟩ := HCW.out _ hSw; have hgw := World.block_lt_of_cell? _ _ l0; obtain ⟨⟨iA0, iA1⟩, _, _⟩ := hxA; obtain ⟨⟨iM0, iM1⟩, _, _⟩ := hxM; go_simp; try (with_reducible rfl))); (try simp only [Act.put, List.getElem_toArray, List.getElem_cons_succ, List.getElem_cons_zero, List.setIfInBounds_toArray, List.set_cons_zero, List.set_cons_succ])
          (refine wpAnyH_take (i := 8) (v := ?_) rfl (by kernel_rfl) (by kernel_rfl) (by kernel_rfl) (fun _ _ _ h => h) (Or.inl ⟨rfl, ?_⟩) (by assumption) ?_; rotate_left; focus (intro W hSw; (try dsimp only at hSw); have hxx := HXX.out _ hSw; obtain ⟨hxA, hxM⟩ := hxx; obtain ⟨l0, l1, l2, l3⟩ := HCW.out _ hSw; have hgw := World.block_lt_of_cell? _ _ l0; obtain ⟨⟨iA0, iA1⟩, _, _⟩ := hxA; obtain ⟨⟨iM0, iM1⟩, _, _⟩ := hxM; go_simp; try (with_reducible rfl))); (try simp only [Act.put, List.getElem_toArray, List.getElem_cons_succ, List.getElem_cons_zero, List.setIfInBounds_toArray, List.set_cons_zero, List.set_cons_succ])
          (refine wpAnyH_take (i := 9) (v := ?_) rfl (by kernel_rfl) (by kernel_rfl) (by kernel_rfl) (fun _ _ _ h => h) (Or.inl ⟨rfl, ?_⟩) (by assumption) ?_; rotate_left; focus (intro W hSw; (try dsimp only at hSw); have hxx := HXX.out _ hSw; obtain ⟨hxA, hxM⟩ := hxx; obtain ⟨l0, l1, l2, l3⟩ := HCW.out _ hSw; have hgw := World.block_lt_of_cell? _ _ l0; obtain ⟨⟨iA0, iA1⟩, _, _⟩ := hxA; obtain ⟨⟨iM0, iM1⟩, _, _⟩ := hxM; go_simp; try (with_reducible rfl))); (try simp only [Act.put, List.getElem_toArray, List.getElem_cons_succ, List.getElem_cons_zero, List.setIfInBounds_toArray, List.set_cons_zero, List.set_cons_succ])
          (refine wpAnyH_take (i := 10) (v := ?_) rfl (by kernel_rfl) (by kernel_rfl) (by kernel_rfl) (fun _ _ _ h => h) (Or.inl ⟨rfl, ?_⟩) (by assumption) ?_; rotate_left; focus (intro W hSw; (try dsimp only at hSw); have hxx := HXX.out _ hSw; obtain ⟨hxA, hxM⟩ := hxx; obtain ⟨l0, l1, l2, l3⟩ := HCW.out _ hSw; have hgw := World.block_lt_of_cell? _ _ l0; obtain ⟨⟨iA0, iA1⟩, _, _⟩ := hxA; obtain ⟨⟨iM0, iM1⟩, _, _⟩ := hxM; go_simp; try (with_reducible rfl))); (try simp only [Act.put, List.getElem_toArray, List.getElem_cons_succ, List.getElem_cons_zero, List.setIfInBounds_toArray, List.set_cons_zero, List.set_cons_succ])
          (refine wpAnyH_take (i := 11) (v := ?_) rfl (by kernel_rfl) (by kernel_rfl) (by kernel_rfl) (fun _ _ _ h => h) (Or.inl ⟨rfl, ?_⟩) (by assumption) ?_; rotate_left; focus (intro W hSw; (try dsimp only at hSw); have hxx := HXX.out _ hSw; obtain ⟨hxA, hxM⟩ := hxx; obtain ⟨l0, l1, l2, l3⟩ := HCW.out _ hSw; have hgw := World.block_lt_of_cell? _ _ l0; obtain ⟨⟨iA0, iA1⟩, _, _⟩ := hxA; obtain ⟨⟨iM0, iM1⟩, _, _⟩ := hxM; go_simp; try (with_reducible rfl))); (try simp only [Act.put, List.getElem_toArray, List.getElem_cons_succ, List.getElem_cons_zero, List.setIfInBounds_toArray, List.set_cons_zero, List.set_cons_succ])
          refine wpAnyH_done (by kernel_rfl) ?_ _
          have hHeld0 := hHeld
          have HB := Lib.hid (HB.out.trans (hHeld.mono HB.out.size))
          clear hHeld HXX
          have HBZ := Lib.hid (below_after hHeld0 HBZ.out)
          clear hHeld0 HCW
          obtain ⟨⟨qA0, qA1⟩, ⟨fA0, fA1⟩, zA⟩ := HA.out
          obtain ⟨⟨qM0, qM1⟩, ⟨fM0, fM1⟩, zM⟩ := HM.out
          obtain ⟨l0, l1, l2, l3⟩ := HCV.out _ HBZ.out
          have hgw := World.block_lt_of_cell? _ _ l0
          go_wp2_with fail
          go_at_call 19
          refine (IP.out _).mono ?_
          rintro e wy ⟨rfl, hy⟩
          obtain ⟨l0, l1, l2, l3⟩ := HCV.out _ (below_after hy HBZ.out)
          have hgw := World.block_lt_of_cell? _ _ l0
          go_wp2_with fail
          go_ret
          exact ⟨by simp, below_after hy HB.out⟩
        · cases hq : isPt (q0, q1)
          · skip
            have hno : (isPt (p0, p1) && isPt (q0, q1)) = false := by rw [hp, hq]; rfl
            have IE := Lib.hid (fun w => impl_DeterminantOf_no p0 p1 q0 q1 w hno)
            have hpc : prC p0 p1 q0 q1 = 1 := by unfold prC; rw [hno]; rfl
            have hpv : rpV p0 p1 q0 q1 = false := by unfold rpV; rw [if_neg (by rw [hpc]; decide)]
            rw [hpc, hpv] at IR
            rw [hp] at IP
            rw [hq] at IQ
            clear hpc hpv hdk hred hp hq hd hdet hno
            have HBZ : Hid (Below w18.heap.size w18 w19) := HBQ.out
            have HCW : Hid (∀ W, Below w19.heap.size w19 W → W.cell? ⟨gv, 0, none⟩ = some (.int .i64 p0) ∧ W.cell? ⟨gv, 1, none⟩ = some (.int .i64 p1) ∧ W.cell? ⟨gv, 2, none⟩ = some (.int .i64 q0) ∧ W.cell? ⟨gv, 3, none⟩ = some (.int .i64 q1)) := fun W hW => HCV.out W (below_after hW HBZ.out)
            have HXX : Hid (∀ W, Below w19.heap.size w19 W → Bk2 W GA x0 y0 ∧ Bk2 W GM x1 y1) := fun W hW => ⟨HA.out.below hW, HM.out.below hW⟩
            go_wp2_with fail
            refine wp_region_held_drew (S := fun W => Below w19.heap.size w19 W) (by kernel_rfl) ?_ (fun hHeld => ?_); focus ((try dsimp only); exact (Below.refl _ _).drew)
            have HA := Lib.hid (HA.out.below (Below.drew (Below.refl _ _)))
            have HM := Lib.hid (HM.out.below (Below.drew (Below.refl _ _)))
            have HV1 := Lib.hid (HV1.out.below (Below.drew (Below.refl _ _)))
            have hHeld : Below w19.heap.size w19 _ := hHeld
            obtain ⟨wD19, hwD19⟩ : ∃ wD, w19.drew = wD := ⟨_, rfl⟩
            rw [hwD19] at hHeld HA HM HV1 ⊢
            clear hwD19
            (refine wpAnyH_take (i := 0) (v := ?_) rfl (by kernel_rfl) (by kernel_rfl) (by kernel_rfl) (fun _ _ _ h => h) (Or.inl ⟨rfl, ?_⟩) (by assumption) ?_; rotate_left; focus (intro W hSw; (try dsimp only at hSw); have hxx := HXX.out _ hSw; obtain ⟨hxA, hxM⟩ := hxx; obtain ⟨l0, l1, l2, l3⟩ := HCW.out _ hSw; have hgw := World.block_lt_of_cell? _ _ l0; obtain ⟨⟨iA0, iA1⟩, _, _⟩ := hxA; obtain ⟨⟨iM0, iM1⟩, _, _⟩ := hxM; go_simp; try (with_reducible rfl))); (try simp only [Act.put, List.getElem_toArray, List.getElem_cons_succ, List.getElem_cons_zero, List.setIfInBounds_toArray, List.set_cons_zero, List.set_cons_succ])
            (refine wpAnyH_take (i := 1) (v := ?_) rfl (by kernel_rfl) (by kernel_rfl) (by kernel_rfl) (fun _ _ _ h => h) (Or.inl ⟨rfl, ?_⟩) (by assumption) ?_; rotate_left; focus (intro W hSw; (try dsimp only at hSw); have hxx := HXX.out _ hSw; obtain ⟨hxA, hxM⟩ := hxx; obtain ⟨l0, l1, l2, l3⟩ := HCW.out _ hSw; have hgw := World.block_lt_of_cell? _ _ l0; obtain ⟨⟨iA0, iA1⟩, _, _⟩ := hxA; obtain ⟨⟨iM0, iM1⟩, _, _⟩ := hxM; go_simp; try (with_reducible rfl))); (try simp only [Act.put, List.getElem_toArray, List.getElem_cons_succ, List.getElem_cons_zero, List.setIfInBounds_toArray, List.set_cons_zero, List.set_cons_succ])
            (refine wpAnyH_take (i := 2) (v := ?_) rfl (by kernel_rfl) (by kernel_rfl) (by kernel_rfl) (fun _ _ _ h => h) (Or.inl ⟨rfl, ?_⟩) (by assumption) ?_; rotate_left; focus (intro W hSw; (try dsimp only at hSw); have hxx := HXX.out _ hSw; obtain ⟨hxA, hxM⟩ := hxx; obtain ⟨l0, l1, l2, l3⟩ := HCW.out _ hSw; have hgw := World.block_lt_of_cell? _ _ l0; obtain ⟨⟨iA0, iA1⟩, _, _⟩ := hxA; obtain ⟨⟨iM0, iM1⟩, _, _⟩ := hxM; go_simp; try (with_reducible rfl))); (try simp only [Act.put, List.getElem_toArray, List.getElem_cons_succ, List.getElem_cons_zero, List.setIfInBounds_toArray, List.set_cons_zero, List.set_cons_succ])
            (refine wpAnyH_take (i := 3) (v := ?_) rfl (by kernel_rfl) (by kernel_rfl) (by kernel_rfl) (fun _ _ _ h => h) (Or.inl ⟨rfl, ?_⟩) (by assumption) ?_; rotate_left; focus (intro W hSw; (try dsimp only at hSw); have hxx := HXX.out _ hSw; obtain ⟨hxA, hxM⟩ := hxx; obtain ⟨l0, l1, l2, l3⟩ := HCW.out _ hSw; have hgw := World.block_lt_of_cell? _ _ l0; obtain ⟨⟨iA0, iA1⟩, _, _⟩ := hxA; obtain ⟨⟨iM0, iM1⟩, _, _⟩ := hxM; go_simp; try (with_reducible rfl))); (try simp only [Act.put, List.getElem_toArray, List.getElem_cons_succ, List.getElem_cons_zero, List.setIfInBounds_toArray, List.set_cons_zero, List.set_cons_succ])
            (refine wpAnyH_take (i := 4) (v := ?_) rfl (by kernel_rfl) (by kernel_rfl) (by kernel_rfl) (fun _ _ _ h => h) (Or.inl ⟨rfl, ?_⟩) (by assumption) ?_; rotate_left; focus (intro W hSw; (try dsimp only at hSw); have hxx := HXX.out _ hSw; obtain ⟨hxA, hxM⟩ := hxx; obtain ⟨l0, l1, l2, l3⟩ := HCW.out _ hSw; have hgw := World.block_lt_of_cell? _ _ l0; obtain ⟨⟨iA0, iA1⟩, _, _⟩ := hxA; obtain ⟨⟨iM0, iM1⟩, _, _⟩ := hxM; go_simp; try (with_reducible rfl))); (try simp only [Act.put, List.getElem_toArray, List.getElem_cons_succ, List.getElem_cons_zero, List.setIfInBounds_toArray, List.set_cons_zero, List.set_cons_succ])
            (refine wpAnyH_take (i := 5) (v := ?_) rfl (by kernel_rfl) (by kernel_rfl) (by kernel_rfl) (fun _ _ _ h => h) (Or.inl ⟨rfl, ?_⟩) (by assumption) ?_; rotate_left; focus (intro W hSw; (try dsimp only at hSw); have hxx := HXX.out _ hSw; obtain ⟨hxA, hxM⟩ := hxx; obtain ⟨l0, l1, l2, l3⟩ := HCW.out _ hSw; have hgw := World.block_lt_of_cell? _ _ l0; obtain ⟨⟨iA0, iA1⟩, _, _⟩ := hxA; obtain ⟨⟨iM0, iM1⟩, _, _⟩ := hxM; go_simp; try (with_reducible rfl))); (try simp only [Act.put, List.getElem_toArray, List.getElem_cons_succ, List.getElem_cons_zero, List.setIfInBounds_toArray, List.set_cons_zero, List.set_cons_succ])
            refine wpAnyH_ready (rs := [6]) (by kernel_rfl) (by simp) ?_; refine AllReadyH.cons rfl (fun K hK => ?_) AllReadyH.nil
            go_simp; (go_at_call 18; refine (IE.out _).mono ?_; rintro en ywr19x0 ⟨rfl, hb2⟩); have HA := Lib.hid (HA.out.below hb2); have HM := Lib.hid (HM.out.below hb2); have HV1 := Lib.hid (HV1.out.below hb2); refine hK.out _ _ (below_after hb2 hHeld) (fun hHeld2 => ?_); clear hb2; (clear hHeld; rename _ => hHeld; clear hK K; have hHeld : Below w19.heap.size w19 _ := hHeld); (try simp only [Act.put, List.getElem_toArray, List.getElem_cons_succ, List.getElem_cons_zero, List.setIfInBounds_toArray, List.set_cons_zero, List.set_cons_succ])
            (refine wpAnyH_take (i := 7) (v := ?_) rfl (by kernel_rfl) (by kernel_rfl) (by kernel_rfl) (fun _ _ _ h => h) (Or.inl ⟨rfl, ?_⟩) (by assumption) ?_; rotate_left; focus (intro W hSw; (try dsimp only at hSw); have hxx := HXX.out _ hSw; obtain ⟨hxA, hxM⟩ := hxx; obtain ⟨l0, l1, l2, l3⟩ := HCW.out _ hSw; have hgw := World.block_lt_of_cell? _ _ l0; obtain ⟨⟨iA0, iA1⟩, _, _⟩ := hxA; obtain ⟨⟨iM0, iM1⟩, _, _⟩ := hxM; go_simp; try (with_reducible rfl))); (try simp only [Act.put, List.getElem_toArray, List.getElem_cons_succ, List.getElem_cons_zero, List.setIfInBounds_toArray, List.set_cons_zero, List.set_cons_succ])
            (refine wpAnyH_take (i := 8) (v := ?_) rfl (by kernel_rfl) (by kernel_rfl) (by kernel_rfl) (fun _ _ _ h => h) (Or.inl ⟨rfl, ?_⟩) (by assumption) ?_; rotate_left; focus (intro W hSw; (try dsimp only at hSw); have hxx := HXX.out _ hSw; obtain ⟨hxA, hxM⟩ := hxx; obtain ⟨l0, l1, l2, l3⟩ := HCW.out _ hSw; have hgw := World.block_lt_of_cell? _ _ l0; obtain ⟨⟨iA0, iA1⟩, _, _⟩ := hxA; obtain ⟨⟨iM0, iM1⟩, _, _⟩ := hxM; go_simp; try (with_reducible rfl))); (try simp only [Act.put, List.getElem_toArray, List.getElem_cons_succ, List.getElem_cons_zero, List.setIfInBounds_toArray, List.set_cons_zero, List.set_cons_succ])
            (refine wpAnyH_take (i := 9) (v := ?_) rfl (by kernel_rfl) (by kernel_rfl) (by kernel_rfl) (fun _ _ _ h => h) (Or.inl ⟨rfl, ?_⟩) (by assumption) ?_; rotate_left; focus (intro W hSw; (try dsimp only at hSw); have hxx := HXX.out _ hSw; obtain ⟨hxA, hxM⟩ := hxx; obtain ⟨l0, l1, l2, l3⟩ := HCW.out _ hSw; have hgw := World.block_lt_of_cell? _ _ l0; obtain ⟨⟨iA0, iA1⟩, _, _⟩ := hxA; obtain ⟨⟨iM0, iM1⟩, _, _⟩ := hxM; go_simp; try (with_reducible rfl))); (try simp only [Act.put, List.getElem_toArray, List.getElem_cons_succ, List.getElem_cons_zero, List.setIfInBounds_toArray, List.set_cons_zero, List.set_cons_succ])
            (refine wpAnyH_take (i := 10) (v := ?_) rfl (by kernel_rfl) (by kernel_rfl) (by kernel_rfl) (fun _ _ _ h => h) (Or.inl ⟨rfl, ?_⟩) (by assumption) ?_; rotate_left; focus (intro W hSw; (try dsimp only at hSw); have hxx := HXX.out _ hSw; obtain ⟨hxA, hxM⟩ := hxx; obtain ⟨l0, l1, l2, l3⟩ := HCW.out _ hSw; have hgw := World.block_lt_of_cell? _ _ l0; obtain ⟨⟨iA0, iA1⟩, _, _⟩ := hxA; obtain ⟨⟨iM0, iM1⟩, _, _⟩ := hxM; go_simp; try (with_reducible rfl))); (try simp only [Act.put, List.getElem_toArray, List.getElem_cons_succ, List.getElem_cons_zero, List.setIfInBounds_toArray, List.set_cons_zero, List.set_cons_succ])
            (refine wpAnyH_take (i := 11) (v := ?_) rfl (by kernel_rfl) (by kernel_rfl) (by kernel_rfl) (fun _ _ _ h => h) (Or.inl ⟨rfl, ?_⟩) (by assumption) ?_; rotate_left; focus (intro W hSw; (try dsimp only at hSw); have hxx := HXX.out _ hSw; obtain ⟨hxA, hxM⟩ := hxx; obtain ⟨l0, l1, l2, l3⟩ := HCW.out _ hSw; have hgw := World.block_lt_of_cell? _ _ l0; obtain ⟨⟨iA0, iA1⟩, _, _⟩ := hxA; obtain ⟨⟨iM0, iM1⟩, _, _⟩ := hxM; go_simp; try (with_reducible rfl))); (try simp only [Act.put, List.getElem_toArray, List.getElem_cons_succ, List.getElem_cons_zero, List.setIfInBounds_toArray, List.set_cons_zero, List.set_cons_succ])
            refine wpAnyH_done (by kernel_rfl) ?_ _
            have hHeld0 := hHeld
            have HB := Lib.hid (HB.out.trans (hHeld.mono HB.out.size))
            clear hHeld HXX
            have HBZ := Lib.hid (below_after hHeld0 HBZ.out)
            clear hHeld0 HCW
            have HCW : Hid (∀ W, Below ywr19x0.heap.size ywr19x0 W → W.cell? ⟨gv, 0, none⟩ = some (.int .i64 p0) ∧ W.cell? ⟨gv, 1, none⟩ = some (.int .i64 p1) ∧ W.cell? ⟨gv, 2, none⟩ = some (.int .i64 q0) ∧ W.cell? ⟨gv, 3, none⟩ = some (.int .i64 q1)) := fun W hW => HCV.out W (below_after hW HBZ.out)
            have HXX : Hid (∀ W, Below ywr19x0.heap.size ywr19x0 W → Bk2 W GA x0 y0 ∧ Bk2 W GM x1 y1) := fun W hW => ⟨HA.out.below hW, HM.out.below hW⟩
            go_wp2_with fail
            refine wp_region_held_drew (S := fun W => Below ywr19x0.heap.size ywr19x0 W) (by kernel_rfl) ?_ (fun hHeld => ?_); focus ((try dsimp only); exact (Below.refl _ _).drew)
            have HA := Lib.hid (HA.out.below (Below.drew (Below.refl _ _)))
            have HM := Lib.hid (HM.out.below (Below.drew (Below.refl _ _)))
            have HV1 := Lib.hid (HV1.out.below (Below.drew (Below.refl _ _)))
            have hHeld : Below ywr19x0.heap.size ywr19x0 _ := hHeld
            obtain ⟨wD69, hwD69⟩ : ∃ wD, ywr19x0.drew = wD := ⟨_, rfl⟩
            rw [hwD69] at hHeld HA HM HV1 ⊢
            clear hwD69
            (refine wpAnyH_take (i := 0) (v := ?_) rfl (by kernel_rfl) (by kernel_rfl) (by kernel_rfl) (fun _ _ _ h => h) (Or.inl ⟨rfl, ?_⟩) (by assumption) ?_; rotate_left; focus (intro W hSw; (try dsimp only at hSw); have hxx := HXX.out _ hSw; obtain ⟨hxA, hxM⟩ := hxx; obtain ⟨l0, l1, l2, l3⟩ := HCW.out _ hSw; have hgw := World.block_lt_of_cell? _ _ l0; obtain ⟨⟨iA0, iA1⟩, _, _⟩ := hxA; obtain ⟨⟨iM0, iM1⟩, _, _⟩ := hxM; go_simp; try (with_reducible rfl))); (try simp only [Act.put, List.getElem_toArray, List.getElem_cons_succ, List.getElem_cons_zero, List.setIfInBounds_toArray, List.set_cons_zero, List.set_cons_succ])
            (refine wpAnyH_take (i := 1) (v := ?_) rfl (by kernel_rfl) (by kernel_rfl) (by kernel_rfl) (fun _ _ _ h => h) (Or.inl ⟨rfl, ?_⟩) (by assumption) ?_; rotate_left; focus (intro W hSw; (try dsimp only at hSw); have hxx := HXX.out _ hSw; obtain ⟨hxA, hxM⟩ := hxx; obtain ⟨l0, l1, l2, l3⟩ := HCW.out _ hSw; have hgw := World.block_lt_of_cell? _ _ l0; obtain ⟨⟨iA0, iA1⟩, _, _⟩ := hxA; obtain ⟨⟨iM0, iM1⟩, _, _⟩ := hxM; go_simp; try (with_reducible rfl))); (try simp only [Act.put, List.getElem_toArray, List.getElem_cons_succ, List.getElem_cons_zero, List.setIfInBounds_toArray, List.set_cons_zero, List.set_cons_succ])
            (refine wpAnyH_take (i := 2) (v := ?_) rfl (by kernel_rfl) (by kernel_rfl) (by kernel_rfl) (fun _ _ _ h => h) (Or.inl ⟨rfl, ?_⟩) (by assumption) ?_; rotate_left; focus (intro W hSw; (try dsimp only at hSw); have hxx := HXX.out _ hSw; obtain ⟨hxA, hxM⟩ := hxx; obtain ⟨l0, l1, l2, l3⟩ := HCW.out _ hSw; have hgw := World.block_lt_of_cell? _ _ l0; obtain ⟨⟨iA0, iA1⟩, _, _⟩ := hxA; obtain ⟨⟨iM0, iM1⟩, _, _⟩ := hxM; go_simp; try (with_reducible rfl))); (try simp only [Act.put, List.getElem_toArray, List.getElem_cons_succ, List.getElem_cons_zero, List.setIfInBounds_toArray, List.set_cons_zero, List.set_cons_succ])
            (refine wpAnyH_take (i := 3) (v := ?_) rfl (by kernel_rfl) (by kernel_rfl) (by kernel_rfl) (fun _ _ _ h => h) (Or.inl ⟨rfl, ?_⟩) (by assumption) ?_; rotate_left; focus (intro W hSw; (try dsimp only at hSw); have hxx := HXX.out _ hSw; obtain ⟨hxA, hxM⟩ := hxx; obtain ⟨l0, l1, l2, l3⟩ := HCW.out _ hSw; have hgw := World.block_lt_of_cell? _ _ l0; obtain ⟨⟨iA0, iA1⟩, _, _⟩ := hxA; obtain ⟨⟨iM0, iM1⟩, _, _⟩ := hxM; go_simp; try (with_reducible rfl))); (try simp only [Act.put, List.getElem_toArray, List.getElem_cons_succ, List.getElem_cons_zero, List.setIfInBounds_toArray, List.set_cons_zero, List.set_cons_succ])
            (refine wpAnyH_take (i := 4) (v := ?_) rfl (by kernel_rfl) (by kernel_rfl) (by kernel_rfl) (fun _ _ _ h => h) (Or.inl ⟨rfl, ?_⟩) (by assumption) ?_; rotate_left; focus (intro W hSw; (try dsimp only at hSw); have hxx := HXX.out _ hSw; obtain ⟨hxA, hxM⟩ := hxx; obtain ⟨l0, l1, l2, l3⟩ := HCW.out _ hSw; have hgw := World.block_lt_of_cell? _ _ l0; obtain ⟨⟨iA0, iA1⟩, _, _⟩ := hxA; obtain ⟨⟨iM0, iM1⟩, _, _⟩ := hxM; go_simp; try (with_reducible rfl))); (try simp only [Act.put, List.getElem_toArray, List.getElem_cons_succ, List.getElem_cons_zero, List.setIfInBounds_toArray, List.set_cons_zero, List.set_cons_succ])
            (refine wpAnyH_take (i := 5) (v := ?_) rfl (by kernel_rfl) (by kernel_rfl) (by kernel_rfl) (fun _ _ _ h => h) (Or.inl ⟨rfl, ?_⟩) (by assumption) ?_; rotate_left; focus (intro W hSw; (try dsimp only at hSw); have hxx := HXX.out _ hSw; obtain ⟨hxA, hxM⟩ := hxx; obtain ⟨l0, l1, l2, l3⟩ := HCW.out _ hSw; have hgw := World.block_lt_of_cell? _ _ l0; obtain ⟨⟨iA0, iA1⟩, _, _⟩ := hxA; obtain ⟨⟨iM0, iM1⟩, _, _⟩ := hxM; go_simp; try (with_reducible rfl))); (try simp only [Act.put, List.getElem_toArray, List.getElem_cons_succ, List.getElem_cons_zero, List.setIfInBounds_toArray, List.set_cons_zero, List.set_cons_succ])
            refine wpAnyH_ready (rs := [6]) (by kernel_rfl) (by simp) ?_; refine AllReadyH.cons rfl (fun K hK => ?_) AllReadyH.nil
            go_simp; (go_at_call 10; refine (IR.out _).mono ?_; rintro en ywr69x0 ⟨rfl, hb2⟩); have HA := Lib.hid (HA.out.below hb2); have HM := Lib.hid (HM.out.below hb2); have HV1 := Lib.hid (HV1.out.below hb2); refine hK.out _ _ (below_after hb2 hHeld) (fun hHeld2 => ?_); clear hb2; (clear hHeld; rename _ => hHeld; clear hK K; have hHeld : Below ywr19x0.heap.size ywr19x0 _ := hHeld); (try simp only [Act.put, List.getElem_toArray, List.getElem_cons_succ, List.getElem_cons_zero, List.setIfInBounds_toArray, List.set_cons_zero, List.set_cons_succ])
            (refine wpAnyH_take (i := 7) (v := ?_) rfl (by kernel_rfl) (by kernel_rfl) (by kernel_rfl) (fun _ _ _ h => h) (Or.inl ⟨rfl, ?_⟩) (by assumption) ?_; rotate_left; focus (intro W hSw; (try dsimp only at hSw); have hxx := HXX.out _ hSw; obtain ⟨hxA, hxM⟩ := hxx; obtain ⟨l0, l1, l2, l3⟩ := HCW.out _ hSw; have hgw := World.block_lt_of_cell? _ _ l0; obtain ⟨⟨iA0, iA1⟩, _, _⟩ := hxA; obtain ⟨⟨iM0, iM1⟩, _, _⟩ := hxM; go_simp; try (with_reducible rfl))); (try simp only [Act.put, List.getElem_toArray, List.getElem_cons_succ, List.getElem_cons_zero, List.setIfInBounds_toArray, List.set_cons_zero, List.set_cons_succ])
            (refine wpAnyH_take (i := 8) (v := ?_) rfl (by kernel_rfl) (by kernel_rfl) (by kernel_rfl) (fun _ _ _ h => h) (Or.inl ⟨rfl, ?_⟩) (by assumption) ?_; rotate_left; focus (intro W hSw; (try dsimp only at hSw); have hxx := HXX.out _ hSw; obtain ⟨hxA, hxM⟩ := hxx; obtain ⟨l0, l1, l2, l3⟩ := HCW.out _ hSw; have hgw := World.block_lt_of_cell? _ _ l0; obtain ⟨⟨iA0, iA1⟩, _, _⟩ := hxA; obtain ⟨⟨iM0, iM1⟩, _, _⟩ := hxM; go_simp; try (with_reducible rfl))); (try simp only [Act.put, List.getElem_toArray, List.getElem_cons_succ, List.getElem_cons_zero, List.setIfInBounds_toArray, List.set_cons_zero, List.set_cons_succ])
            (refine wpAnyH_take (i := 9) (v := ?_) rfl (by kernel_rfl) (by kernel_rfl) (by kernel_rfl) (fun _ _ _ h => h) (Or.inl ⟨rfl, ?_⟩) (by assumption) ?_; rotate_left; focus (intro W hSw; (try dsimp only at hSw); have hxx := HXX.out _ hSw; obtain ⟨hxA, hxM⟩ := hxx; obtain ⟨l0, l1, l2, l3⟩ := HCW.out _ hSw; have hgw := World.block_lt_of_cell? _ _ l0; obtain ⟨⟨iA0, iA1⟩, _, _⟩ := hxA; obtain ⟨⟨iM0, iM1⟩, _, _⟩ := hxM; go_simp; try (with_reducible rfl))); (try simp only [Act.put, List.getElem_toArray, List.getElem_cons_succ, List.getElem_cons_zero, List.setIfInBounds_toArray, List.set_cons_zero, List.set_cons_succ])
            (refine wpAnyH_take (i := 10) (v := ?_) rfl (by kernel_rfl) (by kernel_rfl) (by kernel_rfl) (fun _ _ _ h => h) (Or.inl ⟨rfl, ?_⟩) (by assumption) ?_; rotate_left; focus (intro W hSw; (try dsimp only at hSw); have hxx := HXX.out _ hSw; obtain ⟨hxA, hxM⟩ := hxx; obtain ⟨l0, l1, l2, l3⟩ := HCW.out _ hSw; have hgw := World.block_lt_of_cell? _ _ l0; obtain ⟨⟨iA0, iA1⟩, _, _⟩ := hxA; obtain ⟨⟨iM0, iM1⟩, _, _⟩ := hxM; go_simp; try (with_reducible rfl))); (try simp only [Act.put, List.getElem_toArray, List.getElem_cons_succ, List.getElem_cons_zero, List.setIfInBounds_toArray, List.set_cons_zero, List.set_cons_succ])
            (refine wpAnyH_take (i := 11) (v := ?_) rfl (by kernel_rfl) (by kernel_rfl) (by kernel_rfl) (fun _ _ _ h => h) (Or.inl ⟨rfl, ?_⟩) (by assumption) ?_; rotate_left; focus (intro W hSw; (try dsimp only at hSw); have hxx := HXX.out _ hSw; obtain ⟨hxA, hxM⟩ := hxx; obtain ⟨l0, l1, l2, l3⟩ := HCW.out _ hSw; have hgw := World.block_lt_of_cell? _ _ l0; obtain ⟨⟨iA0, iA1⟩, _, _⟩ := hxA; obtain ⟨⟨iM0, iM1⟩, _, _⟩ := hxM; go_simp; try (with_reducible rfl))); (try simp only [Act.put, List.getElem_toArray, List.getElem_cons_succ, List.getElem_cons_zero, List.setIfInBounds_toArray, List.set_cons_zero, List.set_cons_succ])
            refine wpAnyH_done (by kernel_rfl) ?_ _
            have hHeld0 := hHeld
            have HB := Lib.hid (HB.out.trans (hHeld.mono HB.out.size))
            clear hHeld HXX
            have HBZ := Lib.hid (below_after hHeld0 HBZ.out)
            clear hHeld0 HCW
            obtain ⟨⟨qA0, qA1⟩, ⟨fA0, fA1⟩, zA⟩ := HA.out
            obtain ⟨⟨qM0, qM1⟩, ⟨fM0, fM1⟩, zM⟩ := HM.out
            obtain ⟨l0, l1, l2, l3⟩ := HCV.out _ HBZ.out
            have hgw := World.block_lt_of_cell? _ _ l0
            go_wp2_with fail
            go_at_call 19
            refine (IP.out _).mono ?_
            rintro e wy ⟨rfl, hy⟩
            obtain ⟨l0, l1, l2, l3⟩ := HCV.out _ (below_after hy HBZ.out)
            have hgw := World.block_lt_of_cell? _ _ l0
            go_wp2_with fail
            go_at_call 19
            refine (IQ.out _).mono ?_
            rintro e wz ⟨rfl, hz⟩
            go_wp2_with fail
            go_ret
            exact ⟨by simp, below_after hz (below_after hy HB.out)⟩
          · skip
            have IE := Lib.hid (fun w => impl_DeterminantOf_yes p0 p1 q0 q1 w hp hq)
            obtain ⟨b3, b4⟩ := det_pt hp hq
            have hpc : prC p0 p1 q0 q1 = 0 := by unfold prC; rw [hp, hq, if_pos (show (true && true) = true from rfl), if_neg hdk]
            have hpv : rpV p0 p1 q0 q1 = true := by unfold rpV; rw [if_pos hpc]; exact hred
            rw [hpc, hpv] at IR
            rw [hp] at IP
            rw [hq] at IQ
            obtain ⟨D2, hD2⟩ : ∃ D, detP (p0, p1) (q0, q1) = D := ⟨_, rfl⟩
            rw [hD2] at IE hdet b3 b4
            obtain ⟨M, hM⟩ : ∃ M, max D1 (-D1) = M := ⟨_, rfl⟩
            have hM2 : max D2 (-D2) = M := by rw [← hM]; omega
            have hma := Lib.hid hM
            have hmb := Lib.hid hM2
            have hw1 : IntKind.i64.wrap (-D1) = -D1 := by rw [IntKind.wrap_i64]; omega
            have hw2 : IntKind.i64.wrap (-D2) = -D2 := by rw [IntKind.wrap_i64]; omega
            have hwa := Lib.hid hw1
            have hwb := Lib.hid hw2
            clear hpc hpv hD2 hdk hred hM hM2 hp hq hd hdet hw1 hw2
            have HBZ : Hid (Below w18.heap.size w18 w19) := HBQ.out
            have HCW : Hid (∀ W, Below w19.heap.size w19 W → W.cell? ⟨gv, 0, none⟩ = some (.int .i64 p0) ∧ W.cell? ⟨gv, 1, none⟩ = some (.int .i64 p1) ∧ W.cell? ⟨gv, 2, none⟩ = some (.int .i64 q0) ∧ W.cell? ⟨gv, 3, none⟩ = some (.int .i64 q1)) := fun W hW => HCV.out W (below_after hW HBZ.out)
            have HXX : Hid (∀ W, Below w19.heap.size w19 W → Bk2 W GA x0 y0 ∧ Bk2 W GM x1 y1) := fun W hW => ⟨HA.out.below hW, HM.out.below hW⟩
            go_wp2_with fail
            refine wp_region_held_drew (S := fun W => Below w19.heap.size w19 W) (by kernel_rfl) ?_ (fun hHeld => ?_); focus ((try dsimp only); exact (Below.refl _ _).drew)
            have HA := Lib.hid (HA.out.below (Below.drew (Below.refl _ _)))
            have HM := Lib.hid (HM.out.below (Below.drew (Below.refl _ _)))
            have HV1 := Lib.hid (HV1.out.below (Below.drew (Below.refl _ _)))
            have hHeld : Below w19.heap.size w19 _ := hHeld
            obtain ⟨wD19, hwD19⟩ : ∃ wD, w19.drew = wD := ⟨_, rfl⟩
            rw [hwD19] at hHeld HA HM HV1 ⊢
            clear hwD19
            (refine wpAnyH_take (i := 0) (v := ?_) rfl (by kernel_rfl) (by kernel_rfl) (by kernel_rfl) (fun _ _ _ h => h) (Or.inl ⟨rfl, ?_⟩) (by assumption) ?_; rotate_left; focus (intro W hSw; (try dsimp only at hSw); have hxx := HXX.out _ hSw; obtain ⟨hxA, hxM⟩ := hxx; obtain ⟨l0, l1, l2, l3⟩ := HCW.out _ hSw; have hgw := World.block_lt_of_cell? _ _ l0; obtain ⟨⟨iA0, iA1⟩, _, _⟩ := hxA; obtain ⟨⟨iM0, iM1⟩, _, _⟩ := hxM; go_simp; try (with_reducible rfl))); (try simp only [Act.put, List.getElem_toArray, List.getElem_cons_succ, List.getElem_cons_zero, List.setIfInBounds_toArray, List.set_cons_zero, List.set_cons_succ])
            (refine wpAnyH_take (i := 1) (v := ?_) rfl (by kernel_rfl) (by kernel_rfl) (by kernel_rfl) (fun _ _ _ h => h) (Or.inl ⟨rfl, ?_⟩) (by assumption) ?_; rotate_left; focus (intro W hSw; (try dsimp only at hSw); have hxx := HXX.out _ hSw; obtain ⟨hxA, hxM⟩ := hxx; obtain ⟨l0, l1, l2, l3⟩ := HCW.out _ hSw; have hgw := World.block_lt_of_cell? _ _ l0; obtain ⟨⟨iA0, iA1⟩, _, _⟩ := hxA; obtain ⟨⟨iM0, iM1⟩, _, _⟩ := hxM; go_simp; try (with_reducible rfl))); (try simp only [Act.put, List.getElem_toArray, List.getElem_cons_succ, List.getElem_cons_zero, List.setIfInBounds_toArray, List.set_cons_zero, List.set_cons_succ])
            (refine wpAnyH_take (i := 2) (v := ?_) rfl (by kernel_rfl) (by kernel_rfl) (by kernel_rfl) (fun _ _ _ h => h) (Or.inl ⟨rfl, ?_⟩) (by assumption) ?_; rotate_left; focus (intro W hSw; (try dsimp only at hSw); have hxx := HXX.out _ hSw; obtain ⟨hxA, hxM⟩ := hxx; obtain ⟨l0, l1, l2, l3⟩ := HCW.out _ hSw; have hgw := World.block_lt_of_cell? _ _ l0; obtain ⟨⟨iA0, iA1⟩, _, _⟩ := hxA; obtain ⟨⟨iM0, iM1⟩, _, _⟩ := hxM; go_simp; try (with_reducible rfl))); (try simp only [Act.put, List.getElem_toArray, List.getElem_cons_succ, List.getElem_cons_zero, List.setIfInBounds_toArray, List.set_cons_zero, List.set_cons_succ])
            (refine wpAnyH_take (i := 3) (v := ?_) rfl (by kernel_rfl) (by kernel_rfl) (by kernel_rfl) (fun _ _ _ h => h) (Or.inl ⟨rfl, ?_⟩) (by assumption) ?_; rotate_left; focus (intro W hSw; (try dsimp only at hSw); have hxx := HXX.out _ hSw; obtain ⟨hxA, hxM⟩ := hxx; obtain ⟨l0, l1, l2, l3⟩ := HCW.out _ hSw; have hgw := World.block_lt_of_cell? _ _ l0; obtain ⟨⟨iA0, iA1⟩, _, _⟩ := hxA; obtain ⟨⟨iM0, iM1⟩, _, _⟩ := hxM; go_simp; try (with_reducible rfl))); (try simp only [Act.put, List.getElem_toArray, List.getElem_cons_succ, List.getElem_cons_zero, List.setIfInBounds_toArray, List.set_cons_zero, List.set_cons_succ])
            (refine wpAnyH_take (i := 4) (v := ?_) rfl (by kernel_rfl) (by kernel_rfl) (by kernel_rfl) (fun _ _ _ h => h) (Or.inl ⟨rfl, ?_⟩) (by assumption) ?_; rotate_left; focus (intro W hSw; (try dsimp only at hSw); have hxx := HXX.out _ hSw; obtain ⟨hxA, hxM⟩ := hxx; obtain ⟨l0, l1, l2, l3⟩ := HCW.out _ hSw; have hgw := World.block_lt_of_cell? _ _ l0; obtain ⟨⟨iA0, iA1⟩, _, _⟩ := hxA; obtain ⟨⟨iM0, iM1⟩, _, _⟩ := hxM; go_simp; try (with_reducible rfl))); (try simp only [Act.put, List.getElem_toArray, List.getElem_cons_succ, List.getElem_cons_zero, List.setIfInBounds_toArray, List.set_cons_zero, List.set_cons_succ])
            (refine wpAnyH_take (i := 5) (v := ?_) rfl (by kernel_rfl) (by kernel_rfl) (by kernel_rfl) (fun _ _ _ h => h) (Or.inl ⟨rfl, ?_⟩) (by assumption) ?_; rotate_left; focus (intro W hSw; (try dsimp only at hSw); have hxx := HXX.out _ hSw; obtain ⟨hxA, hxM⟩ := hxx; obtain ⟨l0, l1, l2, l3⟩ := HCW.out _ hSw; have hgw := World.block_lt_of_cell? _ _ l0; obtain ⟨⟨iA0, iA1⟩, _, _⟩ := hxA; obtain ⟨⟨iM0, iM1⟩, _, _⟩ := hxM; go_simp; try (with_reducible rfl))); (try simp only [Act.put, List.getElem_toArray, List.getElem_cons_succ, List.getElem_cons_zero, List.setIfInBounds_toArray, List.set_cons_zero, List.set_cons_succ])
            refine wpAnyH_ready (rs := [6]) (by kernel_rfl) (by simp) ?_; refine AllReadyH.cons rfl (fun K hK => ?_) AllReadyH.nil
            go_simp; (go_at_call 18; refine (IE.out _).mono ?_; rintro en ywr19x0 ⟨rfl, hb2⟩); have HA := Lib.hid (HA.out.below hb2); have HM := Lib.hid (HM.out.below hb2); have HV1 := Lib.hid (HV1.out.below hb2); refine hK.out _ _ (below_after hb2 hHeld) (fun hHeld2 => ?_); clear hb2; (clear hHeld; rename _ => hHeld; clear hK K; have hHeld : Below w19.heap.size w19 _ := hHeld); (try simp only [Act.put, List.getElem_toArray, List.getElem_cons_succ, List.getElem_cons_zero, List.setIfInBounds_toArray, List.set_cons_zero, List.set_cons_succ])
            (refine wpAnyH_take (i := 7) (v := ?_) rfl (by kernel_rfl) (by kernel_rfl) (by kernel_rfl) (fun _ _ _ h => h) (Or.inl ⟨rfl, ?_⟩) (by assumption) ?_; rotate_left; focus (intro W hSw; (try dsimp only at hSw); have hxx := HXX.out _ hSw; obtain ⟨hxA, hxM⟩ := hxx; obtain ⟨l0, l1, l2, l3⟩ := HCW.out _ hSw; have hgw := World.block_lt_of_cell? _ _ l0; obtain ⟨⟨iA0, iA1⟩, _, _⟩ := hxA; obtain ⟨⟨iM0, iM1⟩, _, _⟩ := hxM; go_simp; try (with_reducible rfl))); (try simp only [Act.put, List.getElem_toArray, List.getElem_cons_succ, List.getElem_cons_zero, List.setIfInBounds_toArray, List.set_cons_zero, List.set_cons_succ])
            (refine wpAnyH_take (i := 8) (v := ?_) rfl (by kernel_rfl) (by kernel_rfl) (by kernel_rfl) (fun _ _ _ h => h) (Or.inl ⟨rfl, ?_⟩) (by assumption) ?_; rotate_left; focus (intro W hSw; (try dsimp only at hSw); have hxx := HXX.out _ hSw; obtain ⟨hxA, hxM⟩ := hxx; obtain ⟨l0, l1, l2, l3⟩ := HCW.out _ hSw; have hgw := World.block_lt_of_cell? _ _ l0; obtain ⟨⟨iA0, iA1⟩, _, _⟩ := hxA; obtain ⟨⟨iM0, iM1⟩, _, _⟩ := hxM; go_simp; try (with_reducible rfl))); (try simp only [Act.put, List.getElem_toArray, List.getElem_cons_succ, List.getElem_cons_zero, List.setIfInBounds_toArray, List.set_cons_zero, List.set_cons_succ])
            (refine wpAnyH_take (i := 9) (v := ?_) rfl (by kernel_rfl) (by kernel_rfl) (by kernel_rfl) (fun _ _ _ h => h) (Or.inl ⟨rfl, ?_⟩) (by assumption) ?_; rotate_left; focus (intro W hSw; (try dsimp only at hSw); have hxx := HXX.out _ hSw; obtain ⟨hxA, hxM⟩ := hxx; obtain ⟨l0, l1, l2, l3⟩ := HCW.out _ hSw; have hgw := World.block_lt_of_cell? _ _ l0; obtain ⟨⟨iA0, iA1⟩, _, _⟩ := hxA; obtain ⟨⟨iM0, iM1⟩, _, _⟩ := hxM; go_simp; try (with_reducible rfl))); (try simp only [Act.put, List.getElem_toArray, List.getElem_cons_succ, List.getElem_cons_zero, List.setIfInBounds_toArray, List.set_cons_zero, List.set_cons_succ])
            (refine wpAnyH_take (i := 10) (v := ?_) rfl (by kernel_rfl) (by kernel_rfl) (by kernel_rfl) (fun _ _ _ h => h) (Or.inl ⟨rfl, ?_⟩) (by assumption) ?_; rotate_left; focus (intro W hSw; (try dsimp only at hSw); have hxx := HXX.out _ hSw; obtain ⟨hxA, hxM⟩ := hxx; obtain ⟨l0, l1, l2, l3⟩ := HCW.out _ hSw; have hgw := World.block_lt_of_cell? _ _ l0; obtain ⟨⟨iA0, iA1⟩, _, _⟩ := hxA; obtain ⟨⟨iM0, iM1⟩, _, _⟩ := hxM; go_simp; try (with_reducible rfl))); (try simp only [Act.put, List.getElem_toArray, List.getElem_cons_succ, List.getElem_cons_zero, List.setIfInBounds_toArray, List.set_cons_zero, List.set_cons_succ])
            (refine wpAnyH_take (i := 11) (v := ?_) rfl (by kernel_rfl) (by kernel_rfl) (by kernel_rfl) (fun _ _ _ h => h) (Or.inl ⟨rfl, ?_⟩) (by assumption) ?_; rotate_left; focus (intro W hSw; (try dsimp only at hSw); have hxx := HXX.out _ hSw; obtain ⟨hxA, hxM⟩ := hxx; obtain ⟨l0, l1, l2, l3⟩ := HCW.out _ hSw; have hgw := World.block_lt_of_cell? _ _ l0; obtain ⟨⟨iA0, iA1⟩, _, _⟩ := hxA; obtain ⟨⟨iM0, iM1⟩, _, _⟩ := hxM; go_simp; try (with_reducible rfl))); (try simp only [Act.put, List.getElem_toArray, List.getElem_cons_succ, List.getElem_cons_zero, List.setIfInBounds_toArray, List.set_cons_zero, List.set_cons_succ])
            refine wpAnyH_done (by kernel_rfl) ?_ _
            have hHeld0 := hHeld
            have HB := Lib.hid (HB.out.trans (hHeld.mono HB.out.size))
            clear hHeld HXX
            have HBZ := Lib.hid (below_after hHeld0 HBZ.out)
            clear hHeld0 HCW
            have HCW : Hid (∀ W, Below ywr19x0.heap.size ywr19x0 W → W.cell? ⟨gv, 0, none⟩ = some (.int .i64 p0) ∧ W.cell? ⟨gv, 1, none⟩ = some (.int .i64 p1) ∧ W.cell? ⟨gv, 2, none⟩ = some (.int .i64 q0) ∧ W.cell? ⟨gv, 3, none⟩ = some (.int .i64 q1)) := fun W hW => HCV.out W (below_after hW HBZ.out)
            have HXX : Hid (∀ W, Below ywr19x0.heap.size ywr19x0 W → Bk2 W GA x0 y0 ∧ Bk2 W GM x1 y1) := fun W hW => ⟨HA.out.below hW, HM.out.below hW⟩
            go_wp2_with fail
            refine wp_region_held_drew (S := fun W => Below ywr19x0.heap.size ywr19x0 W) (by kernel_rfl) ?_ (fun hHeld => ?_); focus ((try dsimp only); exact (Below.refl _ _).drew)
            have HA := Lib.hid (HA.out.below (Below.drew (Below.refl _ _)))
            have HM := Lib.hid (HM.out.below (Below.drew (Below.refl _ _)))
            have HV1 := Lib.hid (HV1.out.below (Below.drew (Below.refl _ _)))
            have hHeld : Below ywr19x0.heap.size ywr19x0 _ := hHeld
            obtain ⟨wD69, hwD69⟩ : ∃ wD, ywr19x0.drew = wD := ⟨_, rfl⟩
            rw [hwD69] at hHeld HA HM HV1 ⊢
            clear hwD69
            (refine wpAnyH_take (i := 0) (v := ?_) rfl (by kernel_rfl) (by kernel_rfl) (by kernel_rfl) (fun _ _ _ h => h) (Or.inl ⟨rfl, ?_⟩) (by assumption) ?_; rotate_left; focus (intro W hSw; (try dsimp only at hSw); have hxx := HXX.out _ hSw; obtain ⟨hxA, hxM⟩ := hxx; obtain ⟨l0, l1, l2, l3⟩ := HCW.out _ hSw; have hgw := World.block_lt_of_cell? _ _ l0; obtain ⟨⟨iA0, iA1⟩, _, _⟩ := hxA; obtain ⟨⟨iM0, iM1⟩, _, _⟩ := hxM; go_simp; try (with_reducible rfl))); (try simp only [Act.put, List.getElem_toArray, List.getElem_cons_succ, List.getElem_cons_zero, List.setIfInBounds_toArray, List.set_cons_zero, List.set_cons_succ])
            (refine wpAnyH_take (i := 1) (v := ?_) rfl (by kernel_rfl) (by kernel_rfl) (by kernel_rfl) (fun _ _ _ h => h) (Or.inl ⟨rfl, ?_⟩) (by assumption) ?_; rotate_left; focus (intro W hSw; (try dsimp only at hSw); have hxx := HXX.out _ hSw; obtain ⟨hxA, hxM⟩ := hxx; obtain ⟨l0, l1, l2, l3⟩ := HCW.out _ hSw; have hgw := World.block_lt_of_cell? _ _ l0; obtain ⟨⟨iA0, iA1⟩, _, _⟩ := hxA; obtain ⟨⟨iM0, iM1⟩, _, _⟩ := hxM; go_simp; try (with_reducible rfl))); (try simp only [Act.put, List.getElem_toArray, List.getElem_cons_succ, List.getElem_cons_zero, List.setIfInBounds_toArray, List.set_cons_zero, List.set_cons_succ])
            (refine wpAnyH_take (i := 2) (v := ?_) rfl (by kernel_rfl) (by kernel_rfl) (by kernel_rfl) (fun _ _ _ h => h) (Or.inl ⟨rfl, ?_⟩) (by assumption) ?_; rotate_left; focus (intro W hSw; (try dsimp only at hSw); have hxx := HXX.out _ hSw; obtain ⟨hxA, hxM⟩ := hxx; obtain ⟨l0, l1, l2, l3⟩ := HCW.out _ hSw; have hgw := World.block_lt_of_cell? _ _ l0; obtain ⟨⟨iA0, iA1⟩, _, _⟩ := hxA; obtain ⟨⟨iM0, iM1⟩, _, _⟩ := hxM; go_simp; try (with_reducible rfl))); (try simp only [Act.put, List.getElem_toArray, List.getElem_cons_succ, List.getElem_cons_zero, List.setIfInBounds_toArray, List.set_cons_zero, List.set_cons_succ])
            (refine wpAnyH_take (i := 3) (v := ?_) rfl (by kernel_rfl) (by kernel_rfl) (by kernel_rfl) (fun _ _ _ h => h) (Or.inl ⟨rfl, ?_⟩) (by assumption) ?_; rotate_left; focus (intro W hSw; (try dsimp only at hSw); have hxx := HXX.out _ hSw; obtain ⟨hxA, hxM⟩ := hxx; obtain ⟨l0, l1, l2, l3⟩ := HCW.out _ hSw; have hgw := World.block_lt_of_cell? _ _ l0; obtain ⟨⟨iA0, iA1⟩, _, _⟩ := hxA; obtain ⟨⟨iM0, iM1⟩, _, _⟩ := hxM; go_simp; try (with_reducible rfl))); (try simp only [Act.put, List.getElem_toArray, List.getElem_cons_succ, List.getElem_cons_zero, List.setIfInBounds_toArray, List.set_cons_zero, List.set_cons_succ])
            (refine wpAnyH_take (i := 4) (v := ?_) rfl (by kernel_rfl) (by kernel_rfl) (by kernel_rfl) (fun _ _ _ h => h) (Or.inl ⟨rfl, ?_⟩) (by assumption) ?_; rotate_left; focus (intro W hSw; (try dsimp only at hSw); have hxx := HXX.out _ hSw; obtain ⟨hxA, hxM⟩ := hxx; obtain ⟨l0, l1, l2, l3⟩ := HCW.out _ hSw; have hgw := World.block_lt_of_cell? _ _ l0; obtain ⟨⟨iA0, iA1⟩, _, _⟩ := hxA; obtain ⟨⟨iM0, iM1⟩, _, _⟩ := hxM; go_simp; try (with_reducible rfl))); (try simp only [Act.put, List.getElem_toArray, List.getElem_cons_succ, List.getElem_cons_zero, List.setIfInBounds_toArray, List.set_cons_zero, List.set_cons_succ])
            (refine wpAnyH_take (i := 5) (v := ?_) rfl (by kernel_rfl) (by kernel_rfl) (by kernel_rfl) (fun _ _ _ h => h) (Or.inl ⟨rfl, ?_⟩) (by assumption) ?_; rotate_left; focus (intro W hSw; (try dsimp only at hSw); have hxx := HXX.out _ hSw; obtain ⟨hxA, hxM⟩ := hxx; obtain ⟨l0, l1, l2, l3⟩ := HCW.out _ hSw; have hgw := World.block_lt_of_cell? _ _ l0; obtain ⟨⟨iA0, iA1⟩, _, _⟩ := hxA; obtain ⟨⟨iM0, iM1⟩, _, _⟩ := hxM; go_simp; try (with_reducible rfl))); (try simp only [Act.put, List.getElem_toArray, List.getElem_cons_succ, List.getElem_cons_zero, List.setIfInBounds_toArray, List.set_cons_zero, List.set_cons_succ])
            refine wpAnyH_ready (rs := [6]) (by kernel_rfl) (by simp) ?_; refine AllReadyH.cons rfl (fun K hK => ?_) AllReadyH.nil
            go_simp; (go_at_call 10; refine (IR.out _).mono ?_; rintro en ywr69x0 ⟨rfl, hb2⟩); have HA := Lib.hid (HA.out.below hb2); have HM := Lib.hid (HM.out.below hb2); have HV1 := Lib.hid (HV1.out.below hb2); refine hK.out _ _ (below_after hb2 hHeld) (fun hHeld2 => ?_); clear hb2; (clear hHeld; rename _ => hHeld; clear hK K; have hHeld : Below ywr19x0.heap.size ywr19x0 _ := hHeld); (try simp only [Act.put, List.getElem_toArray, List.getElem_cons_succ, List.getElem_cons_zero, List.setIfInBounds_toArray, List.set_cons_zero, List.set_cons_succ])
            (refine wpAnyH_take (i := 7) (v := ?_) rfl (by kernel_rfl) (by kernel_rfl) (by kernel_rfl) (fun _ _ _ h => h) (Or.inl ⟨rfl, ?_⟩) (by assumption) ?_; rotate_left; focus (intro W hSw; (try dsimp only at hSw); have hxx := HXX.out _ hSw; obtain ⟨hxA, hxM⟩ := hxx; obtain ⟨l0, l1, l2, l3⟩ := HCW.out _ hSw; have hgw := World.block_lt_of_cell? _ _ l0; obtain ⟨⟨iA0, iA1⟩, _, _⟩ := hxA; obtain ⟨⟨iM0, iM1⟩, _, _⟩ := hxM; go_simp; try (with_reducible rfl))); (try simp only [Act.put, List.getElem_toArray, List.getElem_cons_succ, List.getElem_cons_zero, List.setIfInBounds_toArray, List.set_cons_zero, List.set_cons_succ])
            (refine wpAnyH_take (i := 8) (v := ?_) rfl (by kernel_rfl) (by kernel_rfl) (by kernel_rfl) (fun _ _ _ h => h) (Or.inl ⟨rfl, ?_⟩) (by assumption) ?_; rotate_left; focus (intro W hSw; (try dsimp only at hSw); have hxx := HXX.out _ hSw; obtain ⟨hxA, hxM⟩ := hxx; obtain ⟨l0, l1, l2, l3⟩ := HCW.out _ hSw; have hgw := World.block_lt_of_cell? _ _ l0; obtain ⟨⟨iA0, iA1⟩, _, _⟩ := hxA; obtain ⟨⟨iM0, iM1⟩, _, _⟩ := hxM; go_simp; try (with_reducible rfl))); (try simp only [Act.put, List.getElem_toArray, List.getElem_cons_succ, List.getElem_cons_zero, List.setIfInBounds_toArray, List.set_cons_zero, List.set_cons_succ])
            (refine wpAnyH_take (i := 9) (v := ?_) rfl (by kernel_rfl) (by kernel_rfl) (by kernel_rfl) (fun _ _ _ h => h) (Or.inl ⟨rfl, ?_⟩) (by assumption) ?_; rotate_left; focus (intro W hSw; (try dsimp only at hSw); have hxx := HXX.out _ hSw; obtain ⟨hxA, hxM⟩ := hxx; obtain ⟨l0, l1, l2, l3⟩ := HCW.out _ hSw; have hgw := World.block_lt_of_cell? _ _ l0; obtain ⟨⟨iA0, iA1⟩, _, _⟩ := hxA; obtain ⟨⟨iM0, iM1⟩, _, _⟩ := hxM; go_simp; try (with_reducible rfl))); (try simp only [Act.put, List.getElem_toArray, List.getElem_cons_succ, List.getElem_cons_zero, List.setIfInBounds_toArray, List.set_cons_zero, List.set_cons_succ])
            (refine wpAnyH_take (i := 10) (v := ?_) rfl (by kernel_rfl) (by kernel_rfl) (by kernel_rfl) (fun _ _ _ h => h) (Or.inl ⟨rfl, ?_⟩) (by assumption) ?_; rotate_left; focus (intro W hSw; (try dsimp only at hSw); have hxx := HXX.out _ hSw; obtain ⟨hxA, hxM⟩ := hxx; obtain ⟨l0, l1, l2, l3⟩ := HCW.out _ hSw; have hgw := World.block_lt_of_cell? _ _ l0; obtain ⟨⟨iA0, iA1⟩, _, _⟩ := hxA; obtain ⟨⟨iM0, iM1⟩, _, _⟩ := hxM; go_simp; try (with_reducible rfl))); (try simp only [Act.put, List.getElem_toArray, List.getElem_cons_succ, List.getElem_cons_zero, List.setIfInBounds_toArray, List.set_cons_zero, List.set_cons_succ])
            (refine wpAnyH_take (i := 11) (v := ?_) rfl (by kernel_rfl) (by kernel_rfl) (by kernel_rfl) (fun _ _ _ h => h) (Or.inl ⟨rfl, ?_⟩) (by assumption) ?_; rotate_left; focus (intro W hSw; (try dsimp only at hSw); have hxx := HXX.out _ hSw; obtain ⟨hxA, hxM⟩ := hxx; obtain ⟨l0, l1, l2, l3⟩ := HCW.out _ hSw; have hgw := World.block_lt_of_cell? _ _ l0; obtain ⟨⟨iA0, iA1⟩, _, _⟩ := hxA; obtain ⟨⟨iM0, iM1⟩, _, _⟩ := hxM; go_simp; try (with_reducible rfl))); (try simp only [Act.put, List.getElem_toArray, List.getElem_cons_succ, List.getElem_cons_zero, List.setIfInBounds_toArray, List.set_cons_zero, List.set_cons_succ])
            refine wpAnyH_done (by kernel_rfl) ?_ _
            have hHeld0 := hHeld
            have HB := Lib.hid (HB.out.trans (hHeld.mono HB.out.size))
            clear hHeld HXX
            have HBZ := Lib.hid (below_after hHeld0 HBZ.out)
            clear hHeld0 HCW
            obtain ⟨⟨qA0, qA1⟩, ⟨fA0, fA1⟩, zA⟩ := HA.out
            obtain ⟨⟨qM0, qM1⟩, ⟨fM0, fM1⟩, zM⟩ := HM.out
            obtain ⟨l0, l1, l2, l3⟩ := HCV.out _ HBZ.out
            have hgw := World.block_lt_of_cell? _ _ l0
            go_wp2_with fail
            go_at_call 19
            refine (IP.out _).mono ?_
            rintro e wy ⟨rfl, hy⟩
            obtain ⟨l0, l1, l2, l3⟩ := HCV.out _ (below_after hy HBZ.out)
            have hgw := World.block_lt_of_cell? _ _ l0
            go_wp2_with fail
            go_at_call 19
            refine (IQ.out _).mono ?_
            rintro e wz ⟨rfl, hz⟩
            have hmm : max D1 (-D1) = max D2 (-D2) := hma.out.trans hmb.out.symm
            go_wp2_with fail
            go_ret
            exact ⟨by first | (have e1 := hwa.out; have e2 := hwb.out; have e3 := hma.out; have e4 := hmb.out; simp [e1, e2, e3, e4]; done) | simp, below_after hz (below_after hy HB.out)⟩
      · skip
        have hN0 : N1 = 0 := by
          have := HN1.out
          unfold rpL at this
          rw [HC1.out, if_neg h1] at this
          exact this.symm
        subst hN0
        have hne : (c1 != 0) = true := by simp [h1]
        obtain ⟨⟨qA0, qA1⟩, ⟨fA0, fA1⟩, zA⟩ := HA.out
        obtain ⟨⟨qM0, qM1⟩, ⟨fM0, fM1⟩, zM⟩ := HM.out
        go_wp2_with fail
        go_ret
        have hb := HB.out
        exact ⟨by first | rfl | simp, hb⟩
end Go.Proofs.Ytadikmjdmddkjaa
