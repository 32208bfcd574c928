/-
  ApplySquare in the model and in the program (own work).
-/
import Derived.Test.YtbgifgfegndlkaaTrG
import Derived.Test.YtbgifgfegndlkaaTrSq
namespace Go.Proofs.Ytbgifgfegndlkaa
open Go.ChangeShapes Go.WideShapes Go.ChangeAt Go.RowKit
set_option linter.unusedVariables false
set_option linter.unusedSimpArgs false
set_option maxRecDepth 100000

def asS (x y z a b c : Int) : Int := x * a + y * b + z * c
def asZ (X Y Z : Int) : Bool := (X == 0 && Y == 0) && Z == 0
def asK (X Y Z : Int) : Int := if asZ X Y Z = true then 2 else if (wh X && wh Y && wh Z) = true then 0 else 3
def asV (X Y Z x : Int) : Int := if asK X Y Z = 0 then x else 0
def apK (m0 m1 m2 m3 m4 m5 m6 m7 m8 a b c : Int) : Int := if isTr a b c = true then (if fit9 (nine m0 m1 m2 m3 m4 m5 m6 m7 m8) = true then asK (asS m0 m1 m2 a b c) (asS m3 m4 m5 a b c) (asS m6 m7 m8 a b c) else 2) else 1
def apV (m0 m1 m2 m3 m4 m5 m6 m7 m8 a b c x : Int) : Int := if apK m0 m1 m2 m3 m4 m5 m6 m7 m8 a b c = 0 then x else 0
theorem isTr_S (X Y Z : Int) (h : asZ X Y Z = false) : isTr X Y Z = (wh X && wh Y && wh Z) := by
  unfold isTr
  unfold asZ at h
  rw [h]
  simp
def SqA (wr : World) (GS : Nat) (i : Nat) (s03 s13 s23 : Int) : Prop := match i with
  | 0 => Bk3 wr GS 0 0 0
  | 1 => Bk3 wr GS s03 0 0
  | 2 => Bk3 wr GS s03 s13 0
  | _ => Bk3 wr GS s03 s13 s23
def SqB0 (wr : World) (GS : Nat) (j : Nat) (s01 s02 s03 s11 s12 s13 s21 s22 s23 : Int) : Prop := match j with
  | 0 => Bk3 wr GS 0 0 0
  | 1 => Bk3 wr GS s01 0 0
  | 2 => Bk3 wr GS s02 0 0
  | _ => Bk3 wr GS s03 0 0
def SqB1 (wr : World) (GS : Nat) (j : Nat) (s01 s02 s03 s11 s12 s13 s21 s22 s23 : Int) : Prop := match j with
  | 0 => Bk3 wr GS s03 0 0
  | 1 => Bk3 wr GS s03 s11 0
  | 2 => Bk3 wr GS s03 s12 0
  | _ => Bk3 wr GS s03 s13 0
def SqB2 (wr : World) (GS : Nat) (j : Nat) (s01 s02 s03 s11 s12 s13 s21 s22 s23 : Int) : Prop := match j with
  | 0 => Bk3 wr GS s03 s13 0
  | 1 => Bk3 wr GS s03 s13 s21
  | 2 => Bk3 wr GS s03 s13 s22
  | _ => Bk3 wr GS s03 s13 s23
set_option maxHeartbeats 6400000 in
theorem spec_ApplySquare_ok (m0 m1 m2 m3 m4 m5 m6 m7 m8 a b c s01 s02 s03 s11 s12 s13 s21 s22 s23 : Int) (E : Value) (w : World) (e00 : Hid (0 + m0 * a = s01)) (e01 : Hid (s01 + m1 * b = s02)) (e02 : Hid (s02 + m2 * c = s03)) (e10 : Hid (0 + m3 * a = s11)) (e11 : Hid (s11 + m4 * b = s12)) (e12 : Hid (s12 + m5 * c = s13)) (e20 : Hid (0 + m6 * a = s21)) (e21 : Hid (s21 + m7 * b = s22)) (e22 : Hid (s22 + m8 * c = s23)) (HBM : Hid (∀ c, c < 9 → 0 ≤ nine m0 m1 m2 m3 m4 m5 m6 m7 m8 c ∧ nine m0 m1 m2 m3 m4 m5 m6 m7 m8 c ≤ 1000000)) (HBT : Hid ((0 ≤ a ∧ a ≤ 1000000) ∧ (0 ≤ b ∧ b ≤ 1000000) ∧ (0 ≤ c ∧ c ≤ 1000000))) (HBS : Hid ((0 ≤ s01 ∧ s01 ≤ 3000000000000) ∧ (0 ≤ s02 ∧ s02 ≤ 3000000000000) ∧ (0 ≤ s03 ∧ s03 ≤ 3000000000000) ∧ (0 ≤ s11 ∧ s11 ≤ 3000000000000) ∧ (0 ≤ s12 ∧ s12 ≤ 3000000000000) ∧ (0 ≤ s13 ∧ s13 ≤ 3000000000000) ∧ (0 ≤ s21 ∧ s21 ≤ 3000000000000) ∧ (0 ≤ s22 ∧ s22 ≤ 3000000000000) ∧ (0 ≤ s23 ∧ s23 ≤ 3000000000000))) (HRES : Hid (E = .tuple #[.agg #[.int .i64 (asV s03 s13 s23 s03), .int .i64 (asV s03 s13 s23 s13), .int .i64 (asV s03 s13 s23 s23)], .int .i64 (asK s03 s13 s23)])) (HIST : Hid (∀ w, Calls Try.prog 54 #[.agg #[.int .i64 a, .int .i64 b, .int .i64 c]] w fun e w' => e = .returned (.bool true) ∧ Below w.heap.size w w')) (HFIT : Hid (∀ w, Calls Try.prog 71 #[.agg #[.int .i64 m0, .int .i64 m1, .int .i64 m2, .int .i64 m3, .int .i64 m4, .int .i64 m5, .int .i64 m6, .int .i64 m7, .int .i64 m8]] w fun e w' => e = .returned (.bool true) ∧ Below w.heap.size w w')) :
    Calls Try.prog 38 #[.agg #[.int .i64 m0, .int .i64 m1, .int .i64 m2, .int .i64 m3, .int .i64 m4, .int .i64 m5, .int .i64 m6, .int .i64 m7, .int .i64 m8], .agg #[.int .i64 a, .int .i64 b, .int .i64 c]] w fun e w' => e = .returned (E) ∧ Below w.heap.size w w' := by
  obtain ⟨GM, hG⟩ : ∃ G, w.heap.size = G := ⟨_, rfl⟩
  have HG := Lib.hid hG
  go_enter Try.func38, Try.ntmps38
  go_upto_region 1 with fail
  obtain ⟨w0, hw0⟩ : ∃ w0, w0 = (((w.alloc (.cells #[.int .i64 m0, .int .i64 m1, .int .i64 m2, .int .i64 m3, .int .i64 m4, .int .i64 m5, .int .i64 m6, .int .i64 m7, .int .i64 m8] 43)).alloc (.cells #[.int .i64 a, .int .i64 b, .int .i64 c] 24)).alloc (.cells #[.int .i64 0, .int .i64 0, .int .i64 0] 24)) := ⟨_, rfl⟩
  rw [← hw0]
  have HM : Hid (Bk9 w0 GM m0 m1 m2 m3 m4 m5 m6 m7 m8) := by
    have h := (bk9_new w m0 m1 m2 m3 m4 m5 m6 m7 m8 43).below (W' := (((w.alloc (.cells #[.int .i64 m0, .int .i64 m1, .int .i64 m2, .int .i64 m3, .int .i64 m4, .int .i64 m5, .int .i64 m6, .int .i64 m7, .int .i64 m8] 43)).alloc (.cells #[.int .i64 a, .int .i64 b, .int .i64 c] 24)).alloc (.cells #[.int .i64 0, .int .i64 0, .int .i64 0] 24))) (by (repeat' (first | (with_reducible exact Below.refl _ _) | (with_reducible refine Below.alloc ?_ ?_ _) | (with_reducible refine Below.setCell ?_ ?_ _) | (with_reducible refine Below.drew ?_) | (with_reducible refine below_drewN ?_ _) | (with_reducible assumption) | (with_reducible refine below_after (by with_reducible assumption) ?_) | go_size)))
    (try simp only [World.size_alloc] at h)
    rw [hG] at h
    rw [hw0]; exact h
  have HT : Hid (Bk3 w0 (GM + 1) a b c) := by
    have h := (bk3_new (w.alloc (.cells #[.int .i64 m0, .int .i64 m1, .int .i64 m2, .int .i64 m3, .int .i64 m4, .int .i64 m5, .int .i64 m6, .int .i64 m7, .int .i64 m8] 43)) a b c 24).below (W' := (((w.alloc (.cells #[.int .i64 m0, .int .i64 m1, .int .i64 m2, .int .i64 m3, .int .i64 m4, .int .i64 m5, .int .i64 m6, .int .i64 m7, .int .i64 m8] 43)).alloc (.cells #[.int .i64 a, .int .i64 b, .int .i64 c] 24)).alloc (.cells #[.int .i64 0, .int .i64 0, .int .i64 0] 24))) (by (repeat' (first | (with_reducible exact Below.refl _ _) | (with_reducible refine Below.alloc ?_ ?_ _) | (with_reducible refine Below.setCell ?_ ?_ _) | (with_reducible refine Below.drew ?_) | (with_reducible refine below_drewN ?_ _) | (with_reducible assumption) | (with_reducible refine below_after (by with_reducible assumption) ?_) | go_size)))
    (try simp only [World.size_alloc] at h)
    rw [hG] at h
    rw [hw0]; exact h
  have HR : Hid (Bk3 w0 (GM + 1 + 1) 0 0 0) := by
    have h := (bk3_new ((w.alloc (.cells #[.int .i64 m0, .int .i64 m1, .int .i64 m2, .int .i64 m3, .int .i64 m4, .int .i64 m5, .int .i64 m6, .int .i64 m7, .int .i64 m8] 43)).alloc (.cells #[.int .i64 a, .int .i64 b, .int .i64 c] 24)) 0 0 0 24).below (W' := (((w.alloc (.cells #[.int .i64 m0, .int .i64 m1, .int .i64 m2, .int .i64 m3, .int .i64 m4, .int .i64 m5, .int .i64 m6, .int .i64 m7, .int .i64 m8] 43)).alloc (.cells #[.int .i64 a, .int .i64 b, .int .i64 c] 24)).alloc (.cells #[.int .i64 0, .int .i64 0, .int .i64 0] 24))) (by (repeat' (first | (with_reducible exact Below.refl _ _) | (with_reducible refine Below.alloc ?_ ?_ _) | (with_reducible refine Below.setCell ?_ ?_ _) | (with_reducible refine Below.drew ?_) | (with_reducible refine below_drewN ?_ _) | (with_reducible assumption) | (with_reducible refine below_after (by with_reducible assumption) ?_) | go_size)))
    (try simp only [World.size_alloc] at h)
    rw [hG] at h
    rw [hw0]; exact h
  have HB : Hid (Below w.heap.size w w0) := by show Below w.heap.size w w0; rw [hw0]; (repeat' (first | (with_reducible exact Below.refl _ _) | (with_reducible refine Below.alloc ?_ ?_ _) | (with_reducible refine Below.setCell ?_ ?_ _) | (with_reducible refine Below.drew ?_) | (with_reducible refine below_drewN ?_ _) | (with_reducible assumption) | (with_reducible refine below_after (by with_reducible assumption) ?_) | go_size))
  clear hw0
  obtain ⟨GR, hGR⟩ : ∃ g, GM + 1 + 1 = g := ⟨_, rfl⟩
  rw [hGR] at HR ⊢
  obtain ⟨GT, hGT⟩ : ∃ g, GM + 1 = g := ⟨_, rfl⟩
  rw [hGT] at HT ⊢
  have le_M : w.heap.size ≤ GM := by omega
  have le_T : w.heap.size ≤ GT := by omega
  have ne_T_M : GT ≠ GM := by omega
  have ne_M_T : GM ≠ GT := by omega
  have le_R : w.heap.size ≤ GR := by omega
  have ne_R_M : GR ≠ GM := by omega
  have ne_M_R : GM ≠ GR := by omega
  have ne_R_T : GR ≠ GT := by omega
  have ne_T_R : GT ≠ GR := by omega
  clear hGT hGR
  obtain ⟨⟨qM0, qM1, qM2, qM3, qM4, qM5, qM6, qM7, qM8⟩, ⟨fM0, fM1, fM2, fM3, fM4, fM5, fM6, fM7, fM8⟩, zM⟩ := HM.out
  obtain ⟨⟨qT0, qT1, qT2⟩, ⟨fT0, fT1, fT2⟩, zT⟩ := HT.out
  obtain ⟨⟨qR0, qR1, qR2⟩, ⟨fR0, fR1, fR2⟩, zR⟩ := HR.out
  go_wp2_with fail
  go_at_call 54
  refine (HIST.out _).mono ?_
  rintro e w1 ⟨rfl, hb⟩
  clear qM0 fM0 qM1 fM1 qM2 fM2 qM3 fM3 qM4 fM4 qM5 fM5 qM6 fM6 qM7 fM7 qM8 fM8 zM qT0 fT0 qT1 fT1 qT2 fT2 zT qR0 fR0 qR1 fR1 qR2 fR2 zR
  have HM := Lib.hid (HM.out.below hb)
  have HT := Lib.hid (HT.out.below hb)
  have HR := Lib.hid (HR.out.below hb)
  have HB := Lib.hid (below_after hb HB.out)
  clear hb
  obtain ⟨⟨qM0, qM1, qM2, qM3, qM4, qM5, qM6, qM7, qM8⟩, ⟨fM0, fM1, fM2, fM3, fM4, fM5, fM6, fM7, fM8⟩, zM⟩ := HM.out
  obtain ⟨⟨qT0, qT1, qT2⟩, ⟨fT0, fT1, fT2⟩, zT⟩ := HT.out
  obtain ⟨⟨qR0, qR1, qR2⟩, ⟨fR0, fR1, fR2⟩, zR⟩ := HR.out
  go_wp2_with fail
  go_at_call 71
  refine (HFIT.out _).mono ?_
  rintro e w2 ⟨rfl, hb⟩
  clear qM0 fM0 qM1 fM1 qM2 fM2 qM3 fM3 qM4 fM4 qM5 fM5 qM6 fM6 qM7 fM7 qM8 fM8 zM qT0 fT0 qT1 fT1 qT2 fT2 zT qR0 fR0 qR1 fR1 qR2 fR2 zR
  have HM := Lib.hid (HM.out.below hb)
  have HT := Lib.hid (HT.out.below hb)
  have HR := Lib.hid (HR.out.below hb)
  have HB := Lib.hid (below_after hb HB.out)
  clear hb
  obtain ⟨⟨qM0, qM1, qM2, qM3, qM4, qM5, qM6, qM7, qM8⟩, ⟨fM0, fM1, fM2, fM3, fM4, fM5, fM6, fM7, fM8⟩, zM⟩ := HM.out
  obtain ⟨⟨qT0, qT1, qT2⟩, ⟨fT0, fT1, fT2⟩, zT⟩ := HT.out
  obtain ⟨⟨qR0, qR1, qR2⟩, ⟨fR0, fR1, fR2⟩, zR⟩ := HR.out
  go_upto_region 6 with fail
  obtain ⟨GS, hGS⟩ : ∃ g, w2.heap.size = g := ⟨_, rfl⟩
  obtain ⟨w3, hw3⟩ : ∃ wx, wx = w2.alloc (.cells #[.int .i64 0, .int .i64 0, .int .i64 0] 24) := ⟨_, rfl⟩
  rw [← hw3, hGS]
  have HS : Hid (Bk3 w3 GS 0 0 0) := by rw [hw3, ← hGS]; exact bk3_new w2 0 0 0 _
  have le_S : w.heap.size ≤ GS := by rw [← hGS]; exact HB.out.size
  have ne_S_M : GS ≠ GM := by have := HM.out.2.2; omega
  have ne_M_S : GM ≠ GS := Ne.symm ne_S_M
  have ne_S_T : GS ≠ GT := by have := HT.out.2.2; omega
  have ne_T_S : GT ≠ GS := Ne.symm ne_S_T
  have ne_S_R : GS ≠ GR := by have := HR.out.2.2; omega
  have ne_R_S : GR ≠ GS := Ne.symm ne_S_R
  clear qM0 fM0 qM1 fM1 qM2 fM2 qM3 fM3 qM4 fM4 qM5 fM5 qM6 fM6 qM7 fM7 qM8 fM8 zM qT0 fT0 qT1 fT1 qT2 fT2 zT qR0 fR0 qR1 fR1 qR2 fR2 zR
  have HM := Lib.hid (HM.out.below ((Below.refl _ _).alloc (Nat.le_refl _) (.cells #[.int .i64 0, .int .i64 0, .int .i64 0] 24)))
  have HT := Lib.hid (HT.out.below ((Below.refl _ _).alloc (Nat.le_refl _) (.cells #[.int .i64 0, .int .i64 0, .int .i64 0] 24)))
  have HR := Lib.hid (HR.out.below ((Below.refl _ _).alloc (Nat.le_refl _) (.cells #[.int .i64 0, .int .i64 0, .int .i64 0] 24)))
  have HB := Lib.hid (Below.alloc HB.out HB.out.size (.cells #[.int .i64 0, .int .i64 0, .int .i64 0] 24))
  rw [← hw3] at HM HT HR HB
  clear hw3 hGS
  obtain ⟨⟨qM0, qM1, qM2, qM3, qM4, qM5, qM6, qM7, qM8⟩, ⟨fM0, fM1, fM2, fM3, fM4, fM5, fM6, fM7, fM8⟩, zM⟩ := HM.out
  obtain ⟨⟨qT0, qT1, qT2⟩, ⟨fT0, fT1, fT2⟩, zT⟩ := HT.out
  obtain ⟨⟨qR0, qR1, qR2⟩, ⟨fR0, fR1, fR2⟩, zR⟩ := HR.out
  obtain ⟨⟨qS0, qS1, qS2⟩, ⟨fS0, fS1, fS2⟩, zS⟩ := HS.out
  go_wp2_with fail
  clear qM0 fM0 qM1 fM1 qM2 fM2 qM3 fM3 qM4 fM4 qM5 fM5 qM6 fM6 qM7 fM7 qM8 fM8 zM qT0 fT0 qT1 fT1 qT2 fT2 zT qR0 fR0 qR1 fR1 qR2 fR2 zR qS0 fS0 qS1 fS1 qS2 fS2 zS
  have HNE := Lib.hid (And.intro ne_S_T (And.intro ne_T_S (And.intro ne_S_R (And.intro ne_R_S (And.intro ne_S_M (And.intro ne_M_S le_S))))))
  clear HIST HFIT
  go_loopw [7] (fun y wr => ∃ i : Nat, y = .int .i64 (i : Int) ∧ i ≤ 3 ∧ SqA wr GS i s03 s13 s23 ∧ Bk3 wr GT a b c ∧ Bk3 wr GR 0 0 0 ∧ Bk9 wr GM m0 m1 m2 m3 m4 m5 m6 m7 m8 ∧ Below w.heap.size w wr) (fun y _ => 3 - (intOf y).toNat)
  case atStart => exact ⟨0, rfl, by omega, HS.out, HT.out, HR.out, HM.out, HB.out⟩
  case round =>
    obtain ⟨i, rfl, hi, hS, hT, hR, hM, hbel⟩ := hrel
    clear HS HT HR HM HB
    have HS0 := Lib.hid hS
    have HT := Lib.hid hT
    have HR := Lib.hid hR
    have HM := Lib.hid hM
    have HB := Lib.hid hbel
    clear hS hT hR hM hbel
    rcases (show i = 0 ∨ i = 1 ∨ i = 2 ∨ i = 3 by omega) with rfl | rfl | rfl | rfl
    · rw [show ((0 : Nat) : Int) = 0 from rfl]
      have HS : Hid (Bk3 wr GS 0 0 0) := HS0.out
      clear HS0
      have hne := HNE.out
      obtain ⟨ne_S_T, ne_T_S, ne_S_R, ne_R_S, ne_S_M, ne_M_S, le_S⟩ := hne
      obtain ⟨⟨qS0, qS1, qS2⟩, ⟨fS0, fS1, fS2⟩, zS⟩ := HS.out
      obtain ⟨⟨qT0, qT1, qT2⟩, ⟨fT0, fT1, fT2⟩, zT⟩ := HT.out
      obtain ⟨⟨qR0, qR1, qR2⟩, ⟨fR0, fR1, fR2⟩, zR⟩ := HR.out
      obtain ⟨⟨qM0, qM1, qM2, qM3, qM4, qM5, qM6, qM7, qM8⟩, ⟨fM0, fM1, fM2, fM3, fM4, fM5, fM6, fM7, fM8⟩, zM⟩ := HM.out
      go_wp2_with fail
      clear qS0 fS0 qS1 fS1 qS2 fS2 zS qT0 fT0 qT1 fT1 qT2 fT2 zT qR0 fR0 qR1 fR1 qR2 fR2 zR qM0 fM0 qM1 fM1 qM2 fM2 qM3 fM3 qM4 fM4 qM5 fM5 qM6 fM6 qM7 fM7 qM8 fM8 zM
      go_loopw [8] (fun y wr => ∃ j : Nat, y = .int .i64 (j : Int) ∧ j ≤ 3 ∧ SqB0 wr GS j s01 s02 s03 s11 s12 s13 s21 s22 s23 ∧ Bk3 wr GT a b c ∧ Bk3 wr GR 0 0 0 ∧ Bk9 wr GM m0 m1 m2 m3 m4 m5 m6 m7 m8 ∧ Below w.heap.size w wr) (fun y _ => 3 - (intOf y).toNat)
      case atStart => exact ⟨0, rfl, by omega, HS.out, HT.out, HR.out, HM.out, HB.out⟩
      case round =>
        obtain ⟨j, rfl, hj, hS, hT, hR, hM, hbel⟩ := hrel
        clear HS HT HR HM HB
        have HS0 := Lib.hid hS
        have HT := Lib.hid hT
        have HR := Lib.hid hR
        have HM := Lib.hid hM
        have HB := Lib.hid hbel
        clear hS hT hR hM hbel
        rcases (show j = 0 ∨ j = 1 ∨ j = 2 ∨ j = 3 by omega) with rfl | rfl | rfl | rfl
        · rw [show ((0 : Nat) : Int) = 0 from rfl]
          have HS : Hid (Bk3 wr GS 0 0 0) := HS0.out
          clear HS0
          have bm := HBM.out 0 (by omega)
          have bt := HBT.out
          simp only [nine] at bm
          have pp0 := Int.mul_nonneg bm.1 (show 0 ≤ a by omega)
          have pp1 : m0 * a ≤ 1000000 * 1000000 := Int.mul_le_mul bm.2 (show a ≤ 1000000 by omega) (by omega) (by omega)
          have bs := HBS.out
          have ws1 : IntKind.i64.wrap (m0 * a) = m0 * a := by rw [IntKind.wrap_i64]; omega
          have ws2 : IntKind.i64.wrap (0 + m0 * a) = 0 + m0 * a := by rw [IntKind.wrap_i64]; omega
          have hE := e00.out
          obtain ⟨⟨qS0, qS1, qS2⟩, ⟨fS0, fS1, fS2⟩, zS⟩ := HS.out
          obtain ⟨⟨qT0, qT1, qT2⟩, ⟨fT0, fT1, fT2⟩, zT⟩ := HT.out
          obtain ⟨⟨qR0, qR1, qR2⟩, ⟨fR0, fR1, fR2⟩, zR⟩ := HR.out
          obtain ⟨⟨qM0, qM1, qM2, qM3, qM4, qM5, qM6, qM7, qM8⟩, ⟨fM0, fM1, fM2, fM3, fM4, fM5, fM6, fM7, fM8⟩, zM⟩ := HM.out
          go_upto_region 12 with fail
          go_still_tail 15, (by kernel_rfl)
          change wpList _ _ _ _ _ (World.drew _)
          obtain ⟨w31, hw31⟩ : ∃ wx, wr.drew = wx := ⟨_, rfl⟩
          rw [hw31]
          clear qS0 fS0 qS1 fS1 qS2 fS2 zS qT0 fT0 qT1 fT1 qT2 fT2 zT qR0 fR0 qR1 fR1 qR2 fR2 zR qM0 fM0 qM1 fM1 qM2 fM2 qM3 fM3 qM4 fM4 qM5 fM5 qM6 fM6 qM7 fM7 qM8 fM8 zM
          have HS := Lib.hid (HS.out.below (Below.drew (Below.refl _ _)))
          have HT := Lib.hid (HT.out.below (Below.drew (Below.refl _ _)))
          have HR := Lib.hid (HR.out.below (Below.drew (Below.refl _ _)))
          have HM := Lib.hid (HM.out.below (Below.drew (Below.refl _ _)))
          have HB := Lib.hid (Below.drew HB.out)
          rw [hw31] at HS HT HR HM HB
          clear hw31
          obtain ⟨⟨qS0, qS1, qS2⟩, ⟨fS0, fS1, fS2⟩, zS⟩ := HS.out
          obtain ⟨⟨qT0, qT1, qT2⟩, ⟨fT0, fT1, fT2⟩, zT⟩ := HT.out
          obtain ⟨⟨qR0, qR1, qR2⟩, ⟨fR0, fR1, fR2⟩, zR⟩ := HR.out
          obtain ⟨⟨qM0, qM1, qM2, qM3, qM4, qM5, qM6, qM7, qM8⟩, ⟨fM0, fM1, fM2, fM3, fM4, fM5, fM6, fM7, fM8⟩, zM⟩ := HM.out
          go_wp2_with fail
          clear qS0 fS0 qS1 fS1 qS2 fS2 zS qT0 fT0 qT1 fT1 qT2 fT2 zT qR0 fR0 qR1 fR1 qR2 fR2 zR qM0 fM0 qM1 fM1 qM2 fM2 qM3 fM3 qM4 fM4 qM5 fM5 qM6 fM6 qM7 fM7 qM8 fM8 zM
          have hset := HS.out.set0 (0 + m0 * a)
          rw [hE] at hset
          have hT2 := (HT.out.far ⟨GS, 0, none⟩ (.int .i64 (0 + m0 * a)) (by show GT ≠ GS; exact ne_T_S))
          have hR2 := (HR.out.far ⟨GS, 0, none⟩ (.int .i64 (0 + m0 * a)) (by show GR ≠ GS; exact ne_R_S))
          have hM2 := (HM.out.far ⟨GS, 0, none⟩ (.int .i64 (0 + m0 * a)) (by show GM ≠ GS; exact ne_M_S))
          have hB2 := Below.setCell HB.out (p := ⟨GS, 0, none⟩) le_S (.int .i64 (0 + m0 * a))
          rw [hE] at hT2 hR2 hB2 hM2
          (try rw [hE])
          go_roundw
          case rel => exact ⟨0 + 1, by first | rfl | go_num, by omega, hset, hT2, hR2, hM2, hB2⟩
          case measure => simp only [intOf]; omega
        · rw [show ((1 : Nat) : Int) = 1 from rfl]
          have HS : Hid (Bk3 wr GS s01 0 0) := HS0.out
          clear HS0
          have bm := HBM.out 1 (by omega)
          have bt := HBT.out
          simp only [nine] at bm
          have pp0 := Int.mul_nonneg bm.1 (show 0 ≤ b by omega)
          have pp1 : m1 * b ≤ 1000000 * 1000000 := Int.mul_le_mul bm.2 (show b ≤ 1000000 by omega) (by omega) (by omega)
          have bs := HBS.out
          have ws1 : IntKind.i64.wrap (m1 * b) = m1 * b := by rw [IntKind.wrap_i64]; omega
          have ws2 : IntKind.i64.wrap (s01 + m1 * b) = s01 + m1 * b := by rw [IntKind.wrap_i64]; omega
          have hE := e01.out
          obtain ⟨⟨qS0, qS1, qS2⟩, ⟨fS0, fS1, fS2⟩, zS⟩ := HS.out
          obtain ⟨⟨qT0, qT1, qT2⟩, ⟨fT0, fT1, fT2⟩, zT⟩ := HT.out
          obtain ⟨⟨qR0, qR1, qR2⟩, ⟨fR0, fR1, fR2⟩, zR⟩ := HR.out
          obtain ⟨⟨qM0, qM1, qM2, qM3, qM4, qM5, qM6, qM7, qM8⟩, ⟨fM0, fM1, fM2, fM3, fM4, fM5, fM6, fM7, fM8⟩, zM⟩ := HM.out
          go_upto_region 12 with fail
          go_still_tail 15, (by kernel_rfl)
          change wpList _ _ _ _ _ (World.drew _)
          obtain ⟨w31, hw31⟩ : ∃ wx, wr.drew = wx := ⟨_, rfl⟩
          rw [hw31]
          clear qS0 fS0 qS1 fS1 qS2 fS2 zS qT0 fT0 qT1 fT1 qT2 fT2 zT qR0 fR0 qR1 fR1 qR2 fR2 zR qM0 fM0 qM1 fM1 qM2 fM2 qM3 fM3 qM4 fM4 qM5 fM5 qM6 fM6 qM7 fM7 qM8 fM8 zM
          have HS := Lib.hid (HS.out.below (Below.drew (Below.refl _ _)))
          have HT := Lib.hid (HT.out.below (Below.drew (Below.refl _ _)))
          have HR := Lib.hid (HR.out.below (Below.drew (Below.refl _ _)))
          have HM := Lib.hid (HM.out.below (Below.drew (Below.refl _ _)))
          have HB := Lib.hid (Below.drew HB.out)
          rw [hw31] at HS HT HR HM HB
          clear hw31
          obtain ⟨⟨qS0, qS1, qS2⟩, ⟨fS0, fS1, fS2⟩, zS⟩ := HS.out
          obtain ⟨⟨qT0, qT1, qT2⟩, ⟨fT0, fT1, fT2⟩, zT⟩ := HT.out
          obtain ⟨⟨qR0, qR1, qR2⟩, ⟨fR0, fR1, fR2⟩, zR⟩ := HR.out
          obtain ⟨⟨qM0, qM1, qM2, qM3, qM4, qM5, qM6, qM7, qM8⟩, ⟨fM0, fM1, fM2, fM3, fM4, fM5, fM6, fM7, fM8⟩, zM⟩ := HM.out
          go_wp2_with fail
          clear qS0 fS0 qS1 fS1 qS2 fS2 zS qT0 fT0 qT1 fT1 qT2 fT2 zT qR0 fR0 qR1 fR1 qR2 fR2 zR qM0 fM0 qM1 fM1 qM2 fM2 qM3 fM3 qM4 fM4 qM5 fM5 qM6 fM6 qM7 fM7 qM8 fM8 zM
          have hset := HS.out.set0 (s01 + m1 * b)
          rw [hE] at hset
          have hT2 := (HT.out.far ⟨GS, 0, none⟩ (.int .i64 (s01 + m1 * b)) (by show GT ≠ GS; exact ne_T_S))
          have hR2 := (HR.out.far ⟨GS, 0, none⟩ (.int .i64 (s01 + m1 * b)) (by show GR ≠ GS; exact ne_R_S))
          have hM2 := (HM.out.far ⟨GS, 0, none⟩ (.int .i64 (s01 + m1 * b)) (by show GM ≠ GS; exact ne_M_S))
          have hB2 := Below.setCell HB.out (p := ⟨GS, 0, none⟩) le_S (.int .i64 (s01 + m1 * b))
          rw [hE] at hT2 hR2 hB2 hM2
          (try rw [hE])
          go_roundw
          case rel => exact ⟨1 + 1, by first | rfl | go_num, by omega, hset, hT2, hR2, hM2, hB2⟩
          case measure => simp only [intOf]; omega
        · rw [show ((2 : Nat) : Int) = 2 from rfl]
          have HS : Hid (Bk3 wr GS s02 0 0) := HS0.out
          clear HS0
          have bm := HBM.out 2 (by omega)
          have bt := HBT.out
          simp only [nine] at bm
          have pp0 := Int.mul_nonneg bm.1 (show 0 ≤ c by omega)
          have pp1 : m2 * c ≤ 1000000 * 1000000 := Int.mul_le_mul bm.2 (show c ≤ 1000000 by omega) (by omega) (by omega)
          have bs := HBS.out
          have ws1 : IntKind.i64.wrap (m2 * c) = m2 * c := by rw [IntKind.wrap_i64]; omega
          have ws2 : IntKind.i64.wrap (s02 + m2 * c) = s02 + m2 * c := by rw [IntKind.wrap_i64]; omega
          have hE := e02.out
          obtain ⟨⟨qS0, qS1, qS2⟩, ⟨fS0, fS1, fS2⟩, zS⟩ := HS.out
          obtain ⟨⟨qT0, qT1, qT2⟩, ⟨fT0, fT1, fT2⟩, zT⟩ := HT.out
          obtain ⟨⟨qR0, qR1, qR2⟩, ⟨fR0, fR1, fR2⟩, zR⟩ := HR.out
          obtain ⟨⟨qM0, qM1, qM2, qM3, qM4, qM5, qM6, qM7, qM8⟩, ⟨fM0, fM1, fM2, fM3, fM4, fM5, fM6, fM7, fM8⟩, zM⟩ := HM.out
          go_upto_region 12 with fail
          go_still_tail 15, (by kernel_rfl)
          change wpList _ _ _ _ _ (World.drew _)
          obtain ⟨w31, hw31⟩ : ∃ wx, wr.drew = wx := ⟨_, rfl⟩
          rw [hw31]
          clear qS0 fS0 qS1 fS1 qS2 fS2 zS qT0 fT0 qT1 fT1 qT2 fT2 zT qR0 fR0 qR1 fR1 qR2 fR2 zR qM0 fM0 qM1 fM1 qM2 fM2 qM3 fM3 qM4 fM4 qM5 fM5 qM6 fM6 qM7 fM7 qM8 fM8 zM
          have HS := Lib.hid (HS.out.below (Below.drew (Below.refl _ _)))
          have HT := Lib.hid (HT.out.below (Below.drew (Below.refl _ _)))
          have HR := Lib.hid (HR.out.below (Below.drew (Below.refl _ _)))
          have HM := Lib.hid (HM.out.below (Below.drew (Below.refl _ _)))
          have HB := Lib.hid (Below.drew HB.out)
          rw [hw31] at HS HT HR HM HB
          clear hw31
          obtain ⟨⟨qS0, qS1, qS2⟩, ⟨fS0, fS1, fS2⟩, zS⟩ := HS.out
          obtain ⟨⟨qT0, qT1, qT2⟩, ⟨fT0, fT1, fT2⟩, zT⟩ := HT.out
          obtain ⟨⟨qR0, qR1, qR2⟩, ⟨fR0, fR1, fR2⟩, zR⟩ := HR.out
          obtain ⟨⟨qM0, qM1, qM2, qM3, qM4, qM5, qM6, qM7, qM8⟩, ⟨fM0, fM1, fM2, fM3, fM4, fM5, fM6, fM7, fM8⟩, zM⟩ := HM.out
          go_wp2_with fail
          clear qS0 fS0 qS1 fS1 qS2 fS2 zS qT0 fT0 qT1 fT1 qT2 fT2 zT qR0 fR0 qR1 fR1 qR2 fR2 zR qM0 fM0 qM1 fM1 qM2 fM2 qM3 fM3 qM4 fM4 qM5 fM5 qM6 fM6 qM7 fM7 qM8 fM8 zM
          have hset := HS.out.set0 (s02 + m2 * c)
          rw [hE] at hset
          have hT2 := (HT.out.far ⟨GS, 0, none⟩ (.int .i64 (s02 + m2 * c)) (by show GT ≠ GS; exact ne_T_S))
          have hR2 := (HR.out.far ⟨GS, 0, none⟩ (.int .i64 (s02 + m2 * c)) (by show GR ≠ GS; exact ne_R_S))
          have hM2 := (HM.out.far ⟨GS, 0, none⟩ (.int .i64 (s02 + m2 * c)) (by show GM ≠ GS; exact ne_M_S))
          have hB2 := Below.setCell HB.out (p := ⟨GS, 0, none⟩) le_S (.int .i64 (s02 + m2 * c))
          rw [hE] at hT2 hR2 hB2 hM2
          (try rw [hE])
          go_roundw
          case rel => exact ⟨2 + 1, by first | rfl | go_num, by omega, hset, hT2, hR2, hM2, hB2⟩
          case measure => simp only [intOf]; omega
        · rw [show ((3 : Nat) : Int) = 3 from rfl]
          have HS : Hid (Bk3 wr GS s03 0 0) := HS0.out
          clear HS0
          go_wp2_with fail
          go_roundw
          case rel => exact ⟨0 + 1, by first | rfl | go_num, by omega, HS.out, HT.out, HR.out, HM.out, HB.out⟩
          case measure => simp only [intOf]; omega
    · rw [show ((1 : Nat) : Int) = 1 from rfl]
      have HS : Hid (Bk3 wr GS s03 0 0) := HS0.out
      clear HS0
      have hne := HNE.out
      obtain ⟨ne_S_T, ne_T_S, ne_S_R, ne_R_S, ne_S_M, ne_M_S, le_S⟩ := hne
      obtain ⟨⟨qS0, qS1, qS2⟩, ⟨fS0, fS1, fS2⟩, zS⟩ := HS.out
      obtain ⟨⟨qT0, qT1, qT2⟩, ⟨fT0, fT1, fT2⟩, zT⟩ := HT.out
      obtain ⟨⟨qR0, qR1, qR2⟩, ⟨fR0, fR1, fR2⟩, zR⟩ := HR.out
      obtain ⟨⟨qM0, qM1, qM2, qM3, qM4, qM5, qM6, qM7, qM8⟩, ⟨fM0, fM1, fM2, fM3, fM4, fM5, fM6, fM7, fM8⟩, zM⟩ := HM.out
      go_wp2_with fail
      clear qS0 fS0 qS1 fS1 qS2 fS2 zS qT0 fT0 qT1 fT1 qT2 fT2 zT qR0 fR0 qR1 fR1 qR2 fR2 zR qM0 fM0 qM1 fM1 qM2 fM2 qM3 fM3 qM4 fM4 qM5 fM5 qM6 fM6 qM7 fM7 qM8 fM8 zM
      go_loopw [8] (fun y wr => ∃ j : Nat, y = .int .i64 (j : Int) ∧ j ≤ 3 ∧ SqB1 wr GS j s01 s02 s03 s11 s12 s13 s21 s22 s23 ∧ Bk3 wr GT a b c ∧ Bk3 wr GR 0 0 0 ∧ Bk9 wr GM m0 m1 m2 m3 m4 m5 m6 m7 m8 ∧ Below w.heap.size w wr) (fun y _ => 3 - (intOf y).toNat)
      case atStart => exact ⟨0, rfl, by omega, HS.out, HT.out, HR.out, HM.out, HB.out⟩
      case round =>
        obtain ⟨j, rfl, hj, hS, hT, hR, hM, hbel⟩ := hrel
        clear HS HT HR HM HB
        have HS0 := Lib.hid hS
        have HT := Lib.hid hT
        have HR := Lib.hid hR
        have HM := Lib.hid hM
        have HB := Lib.hid hbel
        clear hS hT hR hM hbel
        rcases (show j = 0 ∨ j = 1 ∨ j = 2 ∨ j = 3 by omega) with rfl | rfl | rfl | rfl
        · rw [show ((0 : Nat) : Int) = 0 from rfl]
          have HS : Hid (Bk3 wr GS s03 0 0) := HS0.out
          clear HS0
          have bm := HBM.out 3 (by omega)
          have bt := HBT.out
          simp only [nine] at bm
          have pp0 := Int.mul_nonneg bm.1 (show 0 ≤ a by omega)
          have pp1 : m3 * a ≤ 1000000 * 1000000 := Int.mul_le_mul bm.2 (show a ≤ 1000000 by omega) (by omega) (by omega)
          have bs := HBS.out
          have ws1 : IntKind.i64.wrap (m3 * a) = m3 * a := by rw [IntKind.wrap_i64]; omega
          have ws2 : IntKind.i64.wrap (0 + m3 * a) = 0 + m3 * a := by rw [IntKind.wrap_i64]; omega
          have hE := e10.out
          obtain ⟨⟨qS0, qS1, qS2⟩, ⟨fS0, fS1, fS2⟩, zS⟩ := HS.out
          obtain ⟨⟨qT0, qT1, qT2⟩, ⟨fT0, fT1, fT2⟩, zT⟩ := HT.out
          obtain ⟨⟨qR0, qR1, qR2⟩, ⟨fR0, fR1, fR2⟩, zR⟩ := HR.out
          obtain ⟨⟨qM0, qM1, qM2, qM3, qM4, qM5, qM6, qM7, qM8⟩, ⟨fM0, fM1, fM2, fM3, fM4, fM5, fM6, fM7, fM8⟩, zM⟩ := HM.out
          go_upto_region 12 with fail
          go_still_tail 15, (by kernel_rfl)
          change wpList _ _ _ _ _ (World.drew _)
          obtain ⟨w31, hw31⟩ : ∃ wx, wr.drew = wx := ⟨_, rfl⟩
          rw [hw31]
          clear qS0 fS0 qS1 fS1 qS2 fS2 zS qT0 fT0 qT1 fT1 qT2 fT2 zT qR0 fR0 qR1 fR1 qR2 fR2 zR qM0 fM0 qM1 fM1 qM2 fM2 qM3 fM3 qM4 fM4 qM5 fM5 qM6 fM6 qM7 fM7 qM8 fM8 zM
          have HS := Lib.hid (HS.out.below (Below.drew (Below.refl _ _)))
          have HT := Lib.hid (HT.out.below (Below.drew (Below.refl _ _)))
          have HR := Lib.hid (HR.out.below (Below.drew (Below.refl _ _)))
          have HM := Lib.hid (HM.out.below (Below.drew (Below.refl _ _)))
          have HB := Lib.hid (Below.drew HB.out)
          rw [hw31] at HS HT HR HM HB
          clear hw31
          obtain ⟨⟨qS0, qS1, qS2⟩, ⟨fS0, fS1, fS2⟩, zS⟩ := HS.out
          obtain ⟨⟨qT0, qT1, qT2⟩, ⟨fT0, fT1, fT2⟩, zT⟩ := HT.out
          obtain ⟨⟨qR0, qR1, qR2⟩, ⟨fR0, fR1, fR2⟩, zR⟩ := HR.out
          obtain ⟨⟨qM0, qM1, qM2, qM3, qM4, qM5, qM6, qM7, qM8⟩, ⟨fM0, fM1, fM2, fM3, fM4, fM5, fM6, fM7, fM8⟩, zM⟩ := HM.out
          go_wp2_with fail
          clear qS0 fS0 qS1 fS1 qS2 fS2 zS qT0 fT0 qT1 fT1 qT2 fT2 zT qR0 fR0 qR1 fR1 qR2 fR2 zR qM0 fM0 qM1 fM1 qM2 fM2 qM3 fM3 qM4 fM4 qM5 fM5 qM6 fM6 qM7 fM7 qM8 fM8 zM
          have hset := HS.out.set1 (0 + m3 * a)
          rw [hE] at hset
          have hT2 := (HT.out.far ⟨GS, 1, none⟩ (.int .i64 (0 + m3 * a)) (by show GT ≠ GS; exact ne_T_S))
          have hR2 := (HR.out.far ⟨GS, 1, none⟩ (.int .i64 (0 + m3 * a)) (by show GR ≠ GS; exact ne_R_S))
          have hM2 := (HM.out.far ⟨GS, 1, none⟩ (.int .i64 (0 + m3 * a)) (by show GM ≠ GS; exact ne_M_S))
          have hB2 := Below.setCell HB.out (p := ⟨GS, 1, none⟩) le_S (.int .i64 (0 + m3 * a))
          rw [hE] at hT2 hR2 hB2 hM2
          (try rw [hE])
          go_roundw
          case rel => exact ⟨0 + 1, by first | rfl | go_num, by omega, hset, hT2, hR2, hM2, hB2⟩
          case measure => simp only [intOf]; omega
        · rw [show ((1 : Nat) : Int) = 1 from rfl]
          have HS : Hid (Bk3 wr GS s03 s11 0) := HS0.out
          clear HS0
          have bm := HBM.out 4 (by omega)
          have bt := HBT.out
          simp only [nine] at bm
          have pp0 := Int.mul_nonneg bm.1 (show 0 ≤ b by omega)
          have pp1 : m4 * b ≤ 1000000 * 1000000 := Int.mul_le_mul bm.2 (show b ≤ 1000000 by omega) (by omega) (by omega)
          have bs := HBS.out
          have ws1 : IntKind.i64.wrap (m4 * b) = m4 * b := by rw [IntKind.wrap_i64]; omega
          have ws2 : IntKind.i64.wrap (s11 + m4 * b) = s11 + m4 * b := by rw [IntKind.wrap_i64]; omega
          have hE := e11.out
          obtain ⟨⟨qS0, qS1, qS2⟩, ⟨fS0, fS1, fS2⟩, zS⟩ := HS.out
          obtain ⟨⟨qT0, qT1, qT2⟩, ⟨fT0, fT1, fT2⟩, zT⟩ := HT.out
          obtain ⟨⟨qR0, qR1, qR2⟩, ⟨fR0, fR1, fR2⟩, zR⟩ := HR.out
          obtain ⟨⟨qM0, qM1, qM2, qM3, qM4, qM5, qM6, qM7, qM8⟩, ⟨fM0, fM1, fM2, fM3, fM4, fM5, fM6, fM7, fM8⟩, zM⟩ := HM.out
          go_upto_region 12 with fail
          go_still_tail 15, (by kernel_rfl)
          change wpList _ _ _ _ _ (World.drew _)
          obtain ⟨w31, hw31⟩ : ∃ wx, wr.drew = wx := ⟨_, rfl⟩
          rw [hw31]
          clear qS0 fS0 qS1 fS1 qS2 fS2 zS qT0 fT0 qT1 fT1 qT2 fT2 zT qR0 fR0 qR1 fR1 qR2 fR2 zR qM0 fM0 qM1 fM1 qM2 fM2 qM3 fM3 qM4 fM4 qM5 fM5 qM6 fM6 qM7 fM7 qM8 fM8 zM
          have HS := Lib.hid (HS.out.below (Below.drew (Below.refl _ _)))
          have HT := Lib.hid (HT.out.below (Below.drew (Below.refl _ _)))
          have HR := Lib.hid (HR.out.below (Below.drew (Below.refl _ _)))
          have HM := Lib.hid (HM.out.below (Below.drew (Below.refl _ _)))
          have HB := Lib.hid (Below.drew HB.out)
          rw [hw31] at HS HT HR HM HB
          clear hw31
          obtain ⟨⟨qS0, qS1, qS2⟩, ⟨fS0, fS1, fS2⟩, zS⟩ := HS.out
          obtain ⟨⟨qT0, qT1, qT2⟩, ⟨fT0, fT1, fT2⟩, zT⟩ := HT.out
          obtain ⟨⟨qR0, qR1, qR2⟩, ⟨fR0, fR1, fR2⟩, zR⟩ := HR.out
          obtain ⟨⟨qM0, qM1, qM2, qM3, qM4, qM5, qM6, qM7, qM8⟩, ⟨fM0, fM1, fM2, fM3, fM4, fM5, fM6, fM7, fM8⟩, zM⟩ := HM.out
          go_wp2_with fail
          clear qS0 fS0 qS1 fS1 qS2 fS2 zS qT0 fT0 qT1 fT1 qT2 fT2 zT qR0 fR0 qR1 fR1 qR2 fR2 zR qM0 fM0 qM1 fM1 qM2 fM2 qM3 fM3 qM4 fM4 qM5 fM5 qM6 fM6 qM7 fM7 qM8 fM8 zM
          have hset := HS.out.set1 (s11 + m4 * b)
          rw [hE] at hset
          have hT2 := (HT.out.far ⟨GS, 1, none⟩ (.int .i64 (s11 + m4 * b)) (by show GT ≠ GS; exact ne_T_S))
          have hR2 := (HR.out.far ⟨GS, 1, none⟩ (.int .i64 (s11 + m4 * b)) (by show GR ≠ GS; exact ne_R_S))
          have hM2 := (HM.out.far ⟨GS, 1, none⟩ (.int .i64 (s11 + m4 * b)) (by show GM ≠ GS; exact ne_M_S))
          have hB2 := Below.setCell HB.out (p := ⟨GS, 1, none⟩) le_S (.int .i64 (s11 + m4 * b))
          rw [hE] at hT2 hR2 hB2 hM2
          (try rw [hE])
          go_roundw
          case rel => exact ⟨1 + 1, by first | rfl | go_num, by omega, hset, hT2, hR2, hM2, hB2⟩
          case measure => simp only [intOf]; omega
        · rw [show ((2 : Nat) : Int) = 2 from rfl]
          have HS : Hid (Bk3 wr GS s03 s12 0) := HS0.out
          clear HS0
          have bm := HBM.out 5 (by omega)
          have bt := HBT.out
          simp only [nine] at bm
          have pp0 := Int.mul_nonneg bm.1 (show 0 ≤ c by omega)
          have pp1 : m5 * c ≤ 1000000 * 1000000 := Int.mul_le_mul bm.2 (show c ≤ 1000000 by omega) (by omega) (by omega)
          have bs := HBS.out
          have ws1 : IntKind.i64.wrap (m5 * c) = m5 * c := by rw [IntKind.wrap_i64]; omega
          have ws2 : IntKind.i64.wrap (s12 + m5 * c) = s12 + m5 * c := by rw [IntKind.wrap_i64]; omega
          have hE := e12.out
          obtain ⟨⟨qS0, qS1, qS2⟩, ⟨fS0, fS1, fS2⟩, zS⟩ := HS.out
          obtain ⟨⟨qT0, qT1, qT2⟩, ⟨fT0, fT1, fT2⟩, zT⟩ := HT.out
          obtain ⟨⟨qR0, qR1, qR2⟩, ⟨fR0, fR1, fR2⟩, zR⟩ := HR.out
          obtain ⟨⟨qM0, qM1, qM2, qM3, qM4, qM5, qM6, qM7, qM8⟩, ⟨fM0, fM1, fM2, fM3, fM4, fM5, fM6, fM7, fM8⟩, zM⟩ := HM.out
          go_upto_region 12 with fail
          go_still_tail 15, (by kernel_rfl)
          change wpList _ _ _ _ _ (World.drew _)
          obtain ⟨w31, hw31⟩ : ∃ wx, wr.drew = wx := ⟨_, rfl⟩
          rw [hw31]
          clear qS0 fS0 qS1 fS1 qS2 fS2 zS qT0 fT0 qT1 fT1 qT2 fT2 zT qR0 fR0 qR1 fR1 qR2 fR2 zR qM0 fM0 qM1 fM1 qM2 fM2 qM3 fM3 qM4 fM4 qM5 fM5 qM6 fM6 qM7 fM7 qM8 fM8 zM
          have HS := Lib.hid (HS.out.below (Below.drew (Below.refl _ _)))
          have HT := Lib.hid (HT.out.below (Below.drew (Below.refl _ _)))
          have HR := Lib.hid (HR.out.below (Below.drew (Below.refl _ _)))
          have HM := Lib.hid (HM.out.below (Below.drew (Below.refl _ _)))
          have HB := Lib.hid (Below.drew HB.out)
          rw [hw31] at HS HT HR HM HB
          clear hw31
          obtain ⟨⟨qS0, qS1, qS2⟩, ⟨fS0, fS1, fS2⟩, zS⟩ := HS.out
          obtain ⟨⟨qT0, qT1, qT2⟩, ⟨fT0, fT1, fT2⟩, zT⟩ := HT.out
          obtain ⟨⟨qR0, qR1, qR2⟩, ⟨fR0, fR1, fR2⟩, zR⟩ := HR.out
          obtain ⟨⟨qM0, qM1, qM2, qM3, qM4, qM5, qM6, qM7, qM8⟩, ⟨fM0, fM1, fM2, fM3, fM4, fM5, fM6, fM7, fM8⟩, zM⟩ := HM.out
          go_wp2_with fail
          clear qS0 fS0 qS1 fS1 qS2 fS2 zS qT0 fT0 qT1 fT1 qT2 fT2 zT qR0 fR0 qR1 fR1 qR2 fR2 zR qM0 fM0 qM1 fM1 qM2 fM2 qM3 fM3 qM4 fM4 qM5 fM5 qM6 fM6 qM7 fM7 qM8 fM8 zM
          have hset := HS.out.set1 (s12 + m5 * c)
          rw [hE] at hset
          have hT2 := (HT.out.far ⟨GS, 1, none⟩ (.int .i64 (s12 + m5 * c)) (by show GT ≠ GS; exact ne_T_S))
          have hR2 := (HR.out.far ⟨GS, 1, none⟩ (.int .i64 (s12 + m5 * c)) (by show GR ≠ GS; exact ne_R_S))
          have hM2 := (HM.out.far ⟨GS, 1, none⟩ (.int .i64 (s12 + m5 * c)) (by show GM ≠ GS; exact ne_M_S))
          have hB2 := Below.setCell HB.out (p := ⟨GS, 1, none⟩) le_S (.int .i64 (s12 + m5 * c))
          rw [hE] at hT2 hR2 hB2 hM2
          (try rw [hE])
          go_roundw
          case rel => exact ⟨2 + 1, by first | rfl | go_num, by omega, hset, hT2, hR2, hM2, hB2⟩
          case measure => simp only [intOf]; omega
        · rw [show ((3 : Nat) : Int) = 3 from rfl]
          have HS : Hid (Bk3 wr GS s03 s13 0) := HS0.out
          clear HS0
          go_wp2_with fail
          go_roundw
          case rel => exact ⟨1 + 1, by first | rfl | go_num, by omega, HS.out, HT.out, HR.out, HM.out, HB.out⟩
          case measure => simp only [intOf]; omega
    · rw [show ((2 : Nat) : Int) = 2 from rfl]
      have HS : Hid (Bk3 wr GS s03 s13 0) := HS0.out
      clear HS0
      have hne := HNE.out
      obtain ⟨ne_S_T, ne_T_S, ne_S_R, ne_R_S, ne_S_M, ne_M_S, le_S⟩ := hne
      obtain ⟨⟨qS0, qS1, qS2⟩, ⟨fS0, fS1, fS2⟩, zS⟩ := HS.out
      obtain ⟨⟨qT0, qT1, qT2⟩, ⟨fT0, fT1, fT2⟩, zT⟩ := HT.out
      obtain ⟨⟨qR0, qR1, qR2⟩, ⟨fR0, fR1, fR2⟩, zR⟩ := HR.out
      obtain ⟨⟨qM0, qM1, qM2, qM3, qM4, qM5, qM6, qM7, qM8⟩, ⟨fM0, fM1, fM2, fM3, fM4, fM5, fM6, fM7, fM8⟩, zM⟩ := HM.out
      go_wp2_with fail
      clear qS0 fS0 qS1 fS1 qS2 fS2 zS qT0 fT0 qT1 fT1 qT2 fT2 zT qR0 fR0 qR1 fR1 qR2 fR2 zR qM0 fM0 qM1 fM1 qM2 fM2 qM3 fM3 qM4 fM4 qM5 fM5 qM6 fM6 qM7 fM7 qM8 fM8 zM
      go_loopw [8] (fun y wr => ∃ j : Nat, y = .int .i64 (j : Int) ∧ j ≤ 3 ∧ SqB2 wr GS j s01 s02 s03 s11 s12 s13 s21 s22 s23 ∧ Bk3 wr GT a b c ∧ Bk3 wr GR 0 0 0 ∧ Bk9 wr GM m0 m1 m2 m3 m4 m5 m6 m7 m8 ∧ Below w.heap.size w wr) (fun y _ => 3 - (intOf y).toNat)
      case atStart => exact ⟨0, rfl, by omega, HS.out, HT.out, HR.out, HM.out, HB.out⟩
      case round =>
        obtain ⟨j, rfl, hj, hS, hT, hR, hM, hbel⟩ := hrel
        clear HS HT HR HM HB
        have HS0 := Lib.hid hS
        have HT := Lib.hid hT
        have HR := Lib.hid hR
        have HM := Lib.hid hM
        have HB := Lib.hid hbel
        clear hS hT hR hM hbel
        rcases (show j = 0 ∨ j = 1 ∨ j = 2 ∨ j = 3 by omega) with rfl | rfl | rfl | rfl
        · rw [show ((0 : Nat) : Int) = 0 from rfl]
          have HS : Hid (Bk3 wr GS s03 s13 0) := HS0.out
          clear HS0
          have bm := HBM.out 6 (by omega)
          have bt := HBT.out
          simp only [nine] at bm
          have pp0 := Int.mul_nonneg bm.1 (show 0 ≤ a by omega)
          have pp1 : m6 * a ≤ 1000000 * 1000000 := Int.mul_le_mul bm.2 (show a ≤ 1000000 by omega) (by omega) (by omega)
          have bs := HBS.out
          have ws1 : IntKind.i64.wrap (m6 * a) = m6 * a := by rw [IntKind.wrap_i64]; omega
          have ws2 : IntKind.i64.wrap (0 + m6 * a) = 0 + m6 * a := by rw [IntKind.wrap_i64]; omega
          have hE := e20.out
          obtain ⟨⟨qS0, qS1, qS2⟩, ⟨fS0, fS1, fS2⟩, zS⟩ := HS.out
          obtain ⟨⟨qT0, qT1, qT2⟩, ⟨fT0, fT1, fT2⟩, zT⟩ := HT.out
          obtain ⟨⟨qR0, qR1, qR2⟩, ⟨fR0, fR1, fR2⟩, zR⟩ := HR.out
          obtain ⟨⟨qM0, qM1, qM2, qM3, qM4, qM5, qM6, qM7, qM8⟩, ⟨fM0, fM1, fM2, fM3, fM4, fM5, fM6, fM7, fM8⟩, zM⟩ := HM.out
          go_upto_region 12 with fail
          go_still_tail 15, (by kernel_rfl)
          change wpList _ _ _ _ _ (World.drew _)
          obtain ⟨w31, hw31⟩ : ∃ wx, wr.drew = wx := ⟨_, rfl⟩
          rw [hw31]
          clear qS0 fS0 qS1 fS1 qS2 fS2 zS qT0 fT0 qT1 fT1 qT2 fT2 zT qR0 fR0 qR1 fR1 qR2 fR2 zR qM0 fM0 qM1 fM1 qM2 fM2 qM3 fM3 qM4 fM4 qM5 fM5 qM6 fM6 qM7 fM7 qM8 fM8 zM
          have HS := Lib.hid (HS.out.below (Below.drew (Below.refl _ _)))
          have HT := Lib.hid (HT.out.below (Below.drew (Below.refl _ _)))
          have HR := Lib.hid (HR.out.below (Below.drew (Below.refl _ _)))
          have HM := Lib.hid (HM.out.below (Below.drew (Below.refl _ _)))
          have HB := Lib.hid (Below.drew HB.out)
          rw [hw31] at HS HT HR HM HB
          clear hw31
          obtain ⟨⟨qS0, qS1, qS2⟩, ⟨fS0, fS1, fS2⟩, zS⟩ := HS.out
          obtain ⟨⟨qT0, qT1, qT2⟩, ⟨fT0, fT1, fT2⟩, zT⟩ := HT.out
          obtain ⟨⟨qR0, qR1, qR2⟩, ⟨fR0, fR1, fR2⟩, zR⟩ := HR.out
          obtain ⟨⟨qM0, qM1, qM2, qM3, qM4, qM5, qM6, qM7, qM8⟩, ⟨fM0, fM1, fM2, fM3, fM4, fM5, fM6, fM7, fM8⟩, zM⟩ := HM.out
          go_wp2_with fail
          clear qS0 fS0 qS1 fS1 qS2 fS2 zS qT0 fT0 qT1 fT1 qT2 fT2 zT qR0 fR0 qR1 fR1 qR2 fR2 zR qM0 fM0 qM1 fM1 qM2 fM2 qM3 fM3 qM4 fM4 qM5 fM5 qM6 fM6 qM7 fM7 qM8 fM8 zM
          have hset := HS.out.set2 (0 + m6 * a)
          rw [hE] at hset
          have hT2 := (HT.out.far ⟨GS, 2, none⟩ (.int .i64 (0 + m6 * a)) (by show GT ≠ GS; exact ne_T_S))
          have hR2 := (HR.out.far ⟨GS, 2, none⟩ (.int .i64 (0 + m6 * a)) (by show GR ≠ GS; exact ne_R_S))
          have hM2 := (HM.out.far ⟨GS, 2, none⟩ (.int .i64 (0 + m6 * a)) (by show GM ≠ GS; exact ne_M_S))
          have hB2 := Below.setCell HB.out (p := ⟨GS, 2, none⟩) le_S (.int .i64 (0 + m6 * a))
          rw [hE] at hT2 hR2 hB2 hM2
          (try rw [hE])
          go_roundw
          case rel => exact ⟨0 + 1, by first | rfl | go_num, by omega, hset, hT2, hR2, hM2, hB2⟩
          case measure => simp only [intOf]; omega
        · rw [show ((1 : Nat) : Int) = 1 from rfl]
          have HS : Hid (Bk3 wr GS s03 s13 s21) := HS0.out
          clear HS0
          have bm := HBM.out 7 (by omega)
          have bt := HBT.out
          simp only [nine] at bm
          have pp0 := Int.mul_nonneg bm.1 (show 0 ≤ b by omega)
          have pp1 : m7 * b ≤ 1000000 * 1000000 := Int.mul_le_mul bm.2 (show b ≤ 1000000 by omega) (by omega) (by omega)
          have bs := HBS.out
          have ws1 : IntKind.i64.wrap (m7 * b) = m7 * b := by rw [IntKind.wrap_i64]; omega
          have ws2 : IntKind.i64.wrap (s21 + m7 * b) = s21 + m7 * b := by rw [IntKind.wrap_i64]; omega
          have hE := e21.out
          obtain ⟨⟨qS0, qS1, qS2⟩, ⟨fS0, fS1, fS2⟩, zS⟩ := HS.out
          obtain ⟨⟨qT0, qT1, qT2⟩, ⟨fT0, fT1, fT2⟩, zT⟩ := HT.out
          obtain ⟨⟨qR0, qR1, qR2⟩, ⟨fR0, fR1, fR2⟩, zR⟩ := HR.out
          obtain ⟨⟨qM0, qM1, qM2, qM3, qM4, qM5, qM6, qM7, qM8⟩, ⟨fM0, fM1, fM2, fM3, fM4, fM5, fM6, fM7, fM8⟩, zM⟩ := HM.out
          go_upto_region 12 with fail
          go_still_tail 15, (by kernel_rfl)
          change wpList _ _ _ _ _ (World.drew _)
          obtain ⟨w31, hw31⟩ : ∃ wx, wr.drew = wx := ⟨_, rfl⟩
          rw [hw31]
          clear qS0 fS0 qS1 fS1 qS2 fS2 zS qT0 fT0 qT1 fT1 qT2 fT2 zT qR0 fR0 qR1 fR1 qR2 fR2 zR qM0 fM0 qM1 fM1 qM2 fM2 qM3 fM3 qM4 fM4 qM5 fM5 qM6 fM6 qM7 fM7 qM8 fM8 zM
          have HS := Lib.hid (HS.out.below (Below.drew (Below.refl _ _)))
          have HT := Lib.hid (HT.out.below (Below.drew (Below.refl _ _)))
          have HR := Lib.hid (HR.out.below (Below.drew (Below.refl _ _)))
          have HM := Lib.hid (HM.out.below (Below.drew (Below.refl _ _)))
          have HB := Lib.hid (Below.drew HB.out)
          rw [hw31] at HS HT HR HM HB
          clear hw31
          obtain ⟨⟨qS0, qS1, qS2⟩, ⟨fS0, fS1, fS2⟩, zS⟩ := HS.out
          obtain ⟨⟨qT0, qT1, qT2⟩, ⟨fT0, fT1, fT2⟩, zT⟩ := HT.out
          obtain ⟨⟨qR0, qR1, qR2⟩, ⟨fR0, fR1, fR2⟩, zR⟩ := HR.out
          obtain ⟨⟨qM0, qM1, qM2, qM3, qM4, qM5, qM6, qM7, qM8⟩, ⟨fM0, fM1, fM2, fM3, fM4, fM5, fM6, fM7, fM8⟩, zM⟩ := HM.out
          go_wp2_with fail
          clear qS0 fS0 qS1 fS1 qS2 fS2 zS qT0 fT0 qT1 fT1 qT2 fT2 zT qR0 fR0 qR1 fR1 qR2 fR2 zR qM0 fM0 qM1 fM1 qM2 fM2 qM3 fM3 qM4 fM4 qM5 fM5 qM6 fM6 qM7 fM7 qM8 fM8 zM
          have hset := HS.out.set2 (s21 + m7 * b)
          rw [hE] at hset
          have hT2 := (HT.out.far ⟨GS, 2, none⟩ (.int .i64 (s21 + m7 * b)) (by show GT ≠ GS; exact ne_T_S))
          have hR2 := (HR.out.far ⟨GS, 2, none⟩ (.int .i64 (s21 + m7 * b)) (by show GR ≠ GS; exact ne_R_S))
          have hM2 := (HM.out.far ⟨GS, 2, none⟩ (.int .i64 (s21 + m7 * b)) (by show GM ≠ GS; exact ne_M_S))
          have hB2 := Below.setCell HB.out (p := ⟨GS, 2, none⟩) le_S (.int .i64 (s21 + m7 * b))
          rw [hE] at hT2 hR2 hB2 hM2
          (try rw [hE])
          go_roundw
          case rel => exact ⟨1 + 1, by first | rfl | go_num, by omega, hset, hT2, hR2, hM2, hB2⟩
          case measure => simp only [intOf]; omega
        · rw [show ((2 : Nat) : Int) = 2 from rfl]
          have HS : Hid (Bk3 wr GS s03 s13 s22) := HS0.out
          clear HS0
          have bm := HBM.out 8 (by omega)
          have bt := HBT.out
          simp only [nine] at bm
          have pp0 := Int.mul_nonneg bm.1 (show 0 ≤ c by omega)
          have pp1 : m8 * c ≤ 1000000 * 1000000 := Int.mul_le_mul bm.2 (show c ≤ 1000000 by omega) (by omega) (by omega)
          have bs := HBS.out
          have ws1 : IntKind.i64.wrap (m8 * c) = m8 * c := by rw [IntKind.wrap_i64]; omega
          have ws2 : IntKind.i64.wrap (s22 + m8 * c) = s22 + m8 * c := by rw [IntKind.wrap_i64]; omega
          have hE := e22.out
          obtain ⟨⟨qS0, qS1, qS2⟩, ⟨fS0, fS1, fS2⟩, zS⟩ := HS.out
          obtain ⟨⟨qT0, qT1, qT2⟩, ⟨fT0, fT1, fT2⟩, zT⟩ := HT.out
          obtain ⟨⟨qR0, qR1, qR2⟩, ⟨fR0, fR1, fR2⟩, zR⟩ := HR.out
          obtain ⟨⟨qM0, qM1, qM2, qM3, qM4, qM5, qM6, qM7, qM8⟩, ⟨fM0, fM1, fM2, fM3, fM4, fM5, fM6, fM7, fM8⟩, zM⟩ := HM.out
          go_upto_region 12 with fail
          go_still_tail 15, (by kernel_rfl)
          change wpList _ _ _ _ _ (World.drew _)
          obtain ⟨w31, hw31⟩ : ∃ wx, wr.drew = wx := ⟨_, rfl⟩
          rw [hw31]
          clear qS0 fS0 qS1 fS1 qS2 fS2 zS qT0 fT0 qT1 fT1 qT2 fT2 zT qR0 fR0 qR1 fR1 qR2 fR2 zR qM0 fM0 qM1 fM1 qM2 fM2 qM3 fM3 qM4 fM4 qM5 fM5 qM6 fM6 qM7 fM7 qM8 fM8 zM
          have HS := Lib.hid (HS.out.below (Below.drew (Below.refl _ _)))
          have HT := Lib.hid (HT.out.below (Below.drew (Below.refl _ _)))
          have HR := Lib.hid (HR.out.below (Below.drew (Below.refl _ _)))
          have HM := Lib.hid (HM.out.below (Below.drew (Below.refl _ _)))
          have HB := Lib.hid (Below.drew HB.out)
          rw [hw31] at HS HT HR HM HB
          clear hw31
          obtain ⟨⟨qS0, qS1, qS2⟩, ⟨fS0, fS1, fS2⟩, zS⟩ := HS.out
          obtain ⟨⟨qT0, qT1, qT2⟩, ⟨fT0, fT1, fT2⟩, zT⟩ := HT.out
          obtain ⟨⟨qR0, qR1, qR2⟩, ⟨fR0, fR1, fR2⟩, zR⟩ := HR.out
          obtain ⟨⟨qM0, qM1, qM2, qM3, qM4, qM5, qM6, qM7, qM8⟩, ⟨fM0, fM1, fM2, fM3, fM4, fM5, fM6, fM7, fM8⟩, zM⟩ := HM.out
          go_wp2_with fail
          clear qS0 fS0 qS1 fS1 qS2 fS2 zS qT0 fT0 qT1 fT1 qT2 fT2 zT qR0 fR0 qR1 fR1 qR2 fR2 zR qM0 fM0 qM1 fM1 qM2 fM2 qM3 fM3 qM4 fM4 qM5 fM5 qM6 fM6 qM7 fM7 qM8 fM8 zM
          have hset := HS.out.set2 (s22 + m8 * c)
          rw [hE] at hset
          have hT2 := (HT.out.far ⟨GS, 2, none⟩ (.int .i64 (s22 + m8 * c)) (by show GT ≠ GS; exact ne_T_S))
          have hR2 := (HR.out.far ⟨GS, 2, none⟩ (.int .i64 (s22 + m8 * c)) (by show GR ≠ GS; exact ne_R_S))
          have hM2 := (HM.out.far ⟨GS, 2, none⟩ (.int .i64 (s22 + m8 * c)) (by show GM ≠ GS; exact ne_M_S))
          have hB2 := Below.setCell HB.out (p := ⟨GS, 2, none⟩) le_S (.int .i64 (s22 + m8 * c))
          rw [hE] at hT2 hR2 hB2 hM2
          (try rw [hE])
          go_roundw
          case rel => exact ⟨2 + 1, by first | rfl | go_num, by omega, hset, hT2, hR2, hM2, hB2⟩
          case measure => simp only [intOf]; omega
        · rw [show ((3 : Nat) : Int) = 3 from rfl]
          have HS : Hid (Bk3 wr GS s03 s13 s23) := HS0.out
          clear HS0
          go_wp2_with fail
          go_roundw
          case rel => exact ⟨2 + 1, by first | rfl | go_num, by omega, HS.out, HT.out, HR.out, HM.out, HB.out⟩
          case measure => simp only [intOf]; omega
    · rw [show ((3 : Nat) : Int) = 3 from rfl]
      have HS : Hid (Bk3 wr GS s03 s13 s23) := HS0.out
      clear HS0 e00 e01 e02 e10 e11 e12 e20 e21 e22 HBM HBT
      have heq := eq_tr s03 s13 s23 0 0 0
      cases hz : ((s03 == 0 && s13 == 0) && s23 == 0)
      · rw [hz] at heq
        have HIS := Lib.hid (fun w => l07Is_any s03 s13 s23 w)
        rw [isTr_S s03 s13 s23 hz] at HIS
        cases hw : (wh s03 && wh s13 && wh s23)
        · rw [hw] at HIS
          have HE : Hid (E = .tuple #[.agg #[.int .i64 0, .int .i64 0, .int .i64 0], .int .i64 3]) := by
            have e1 : asK s03 s13 s23 = 3 := by unfold asK asZ; rw [hz, hw]; rfl
            show _ = _
            rw [HRES.out]
            unfold asV
            rw [e1]
            rfl
          clear hz hw
          obtain ⟨⟨qS0, qS1, qS2⟩, ⟨fS0, fS1, fS2⟩, zS⟩ := HS.out
          obtain ⟨⟨qR0, qR1, qR2⟩, ⟨fR0, fR1, fR2⟩, zR⟩ := HR.out
          go_wp2_with fail
          go_at_call 54
          refine (HIS.out _).mono ?_
          rintro e w61 ⟨rfl, hb⟩
          clear qS0 fS0 qS1 fS1 qS2 fS2 zS qR0 fR0 qR1 fR1 qR2 fR2 zR
          have HS := Lib.hid (HS.out.below hb)
          have HR := Lib.hid (HR.out.below hb)
          have HB := Lib.hid (below_after hb HB.out)
          clear hb
          obtain ⟨⟨qS0, qS1, qS2⟩, ⟨fS0, fS1, fS2⟩, zS⟩ := HS.out
          obtain ⟨⟨qR0, qR1, qR2⟩, ⟨fR0, fR1, fR2⟩, zR⟩ := HR.out
          go_wp2_with fail
          refine bodyPost_ret (v := .tuple #[.agg #[.int .i64 0, .int .i64 0, .int .i64 0], .int .i64 3]) (by simp (maxDischargeDepth := 8) [results, Try.results38, go_sem, *]) rfl ?_
          have hb := HB.out
          exact ⟨by rw [HE.out], by (repeat' (first | (with_reducible exact Below.refl _ _) | (with_reducible refine Below.alloc ?_ ?_ _) | (with_reducible refine Below.setCell ?_ ?_ _) | (with_reducible refine Below.drew ?_) | (with_reducible refine below_drewN ?_ _) | (with_reducible assumption) | (with_reducible refine below_after (by with_reducible assumption) ?_) | go_size))⟩
        · rw [hw] at HIS
          have HE : Hid (E = .tuple #[.agg #[.int .i64 s03, .int .i64 s13, .int .i64 s23], .int .i64 0]) := by
            have e1 : asK s03 s13 s23 = 0 := by unfold asK asZ; rw [hz, hw]; rfl
            show _ = _
            rw [HRES.out]
            unfold asV
            rw [e1]
            rfl
          clear hz hw
          obtain ⟨⟨qS0, qS1, qS2⟩, ⟨fS0, fS1, fS2⟩, zS⟩ := HS.out
          obtain ⟨⟨qR0, qR1, qR2⟩, ⟨fR0, fR1, fR2⟩, zR⟩ := HR.out
          go_wp2_with fail
          go_at_call 54
          refine (HIS.out _).mono ?_
          rintro e w61 ⟨rfl, hb⟩
          clear qS0 fS0 qS1 fS1 qS2 fS2 zS qR0 fR0 qR1 fR1 qR2 fR2 zR
          have HS := Lib.hid (HS.out.below hb)
          have HR := Lib.hid (HR.out.below hb)
          have HB := Lib.hid (below_after hb HB.out)
          clear hb
          obtain ⟨⟨qS0, qS1, qS2⟩, ⟨fS0, fS1, fS2⟩, zS⟩ := HS.out
          obtain ⟨⟨qR0, qR1, qR2⟩, ⟨fR0, fR1, fR2⟩, zR⟩ := HR.out
          go_wp2_with fail
          refine bodyPost_ret (v := .tuple #[.agg #[.int .i64 s03, .int .i64 s13, .int .i64 s23], .int .i64 0]) (by simp (maxDischargeDepth := 8) [results, Try.results38, go_sem, *]) rfl ?_
          have hb := HB.out
          exact ⟨by rw [HE.out], by (repeat' (first | (with_reducible exact Below.refl _ _) | (with_reducible refine Below.alloc ?_ ?_ _) | (with_reducible refine Below.setCell ?_ ?_ _) | (with_reducible refine Below.drew ?_) | (with_reducible refine below_drewN ?_ _) | (with_reducible assumption) | (with_reducible refine below_after (by with_reducible assumption) ?_) | go_size))⟩
      · rw [hz] at heq
        have HE : Hid (E = .tuple #[.agg #[.int .i64 0, .int .i64 0, .int .i64 0], .int .i64 2]) := by
          have e1 : asK s03 s13 s23 = 2 := by unfold asK asZ; rw [hz]; rfl
          show _ = _
          rw [HRES.out]
          unfold asV
          rw [e1]
          rfl
        clear hz
        obtain ⟨⟨qS0, qS1, qS2⟩, ⟨fS0, fS1, fS2⟩, zS⟩ := HS.out
        obtain ⟨⟨qR0, qR1, qR2⟩, ⟨fR0, fR1, fR2⟩, zR⟩ := HR.out
        go_wp2_with fail
        refine bodyPost_ret (v := .tuple #[.agg #[.int .i64 0, .int .i64 0, .int .i64 0], .int .i64 2]) (by simp (maxDischargeDepth := 8) [results, Try.results38, go_sem, *]) rfl ?_
        have hb := HB.out
        exact ⟨by rw [HE.out], by (repeat' (first | (with_reducible exact Below.refl _ _) | (with_reducible refine Below.alloc ?_ ?_ _) | (with_reducible refine Below.setCell ?_ ?_ _) | (with_reducible refine Below.drew ?_) | (with_reducible refine below_drewN ?_ _) | (with_reducible assumption) | (with_reducible refine below_after (by with_reducible assumption) ?_) | go_size))⟩
theorem spec_ApplySquare_any (m0 m1 m2 m3 m4 m5 m6 m7 m8 a b c : Int) (w : World) : Calls Try.prog 38 #[.agg #[.int .i64 m0, .int .i64 m1, .int .i64 m2, .int .i64 m3, .int .i64 m4, .int .i64 m5, .int .i64 m6, .int .i64 m7, .int .i64 m8], .agg #[.int .i64 a, .int .i64 b, .int .i64 c]] w fun e w' => e = .returned (.tuple #[.agg #[.int .i64 (apV m0 m1 m2 m3 m4 m5 m6 m7 m8 a b c (asS m0 m1 m2 a b c)), .int .i64 (apV m0 m1 m2 m3 m4 m5 m6 m7 m8 a b c (asS m3 m4 m5 a b c)), .int .i64 (apV m0 m1 m2 m3 m4 m5 m6 m7 m8 a b c (asS m6 m7 m8 a b c))], .int .i64 (apK m0 m1 m2 m3 m4 m5 m6 m7 m8 a b c)]) ∧ Below w.heap.size w w' := by
  have HIST := Lib.hid (fun w => l07Is_any a b c w)
  cases ht : isTr a b c
  · have e1 : apK m0 m1 m2 m3 m4 m5 m6 m7 m8 a b c = 1 := by unfold apK; rw [if_neg (by rw [ht]; decide)]
    have e2 : ∀ x, apV m0 m1 m2 m3 m4 m5 m6 m7 m8 a b c x = 0 := fun x => by unfold apV; rw [if_neg (by rw [e1]; decide)]
    rw [e1, e2, e2, e2]
    rw [ht] at HIST
    clear ht e1 e2
    obtain ⟨GM, hG⟩ : ∃ G, w.heap.size = G := ⟨_, rfl⟩
    have HG := Lib.hid hG
    go_enter Try.func38, Try.ntmps38
    go_upto_region 1 with fail
    obtain ⟨w0, hw0⟩ : ∃ w0, w0 = (((w.alloc (.cells #[.int .i64 m0, .int .i64 m1, .int .i64 m2, .int .i64 m3, .int .i64 m4, .int .i64 m5, .int .i64 m6, .int .i64 m7, .int .i64 m8] 43)).alloc (.cells #[.int .i64 a, .int .i64 b, .int .i64 c] 24)).alloc (.cells #[.int .i64 0, .int .i64 0, .int .i64 0] 24)) := ⟨_, rfl⟩
    rw [← hw0]
    have HM : Hid (Bk9 w0 GM m0 m1 m2 m3 m4 m5 m6 m7 m8) := by
      have h := (bk9_new w m0 m1 m2 m3 m4 m5 m6 m7 m8 43).below (W' := (((w.alloc (.cells #[.int .i64 m0, .int .i64 m1, .int .i64 m2, .int .i64 m3, .int .i64 m4, .int .i64 m5, .int .i64 m6, .int .i64 m7, .int .i64 m8] 43)).alloc (.cells #[.int .i64 a, .int .i64 b, .int .i64 c] 24)).alloc (.cells #[.int .i64 0, .int .i64 0, .int .i64 0] 24))) (by (repeat' (first | (with_reducible exact Below.refl _ _) | (with_reducible refine Below.alloc ?_ ?_ _) | (with_reducible refine Below.setCell ?_ ?_ _) | (with_reducible refine Below.drew ?_) | (with_reducible refine below_drewN ?_ _) | (with_reducible assumption) | (with_reducible refine below_after (by with_reducible assumption) ?_) | go_size)))
      (try simp only [World.size_alloc] at h)
      rw [hG] at h
      rw [hw0]; exact h
    have HT : Hid (Bk3 w0 (GM + 1) a b c) := by
      have h := (bk3_new (w.alloc (.cells #[.int .i64 m0, .int .i64 m1, .int .i64 m2, .int .i64 m3, .int .i64 m4, .int .i64 m5, .int .i64 m6, .int .i64 m7, .int .i64 m8] 43)) a b c 24).below (W' := (((w.alloc (.cells #[.int .i64 m0, .int .i64 m1, .int .i64 m2, .int .i64 m3, .int .i64 m4, .int .i64 m5, .int .i64 m6, .int .i64 m7, .int .i64 m8] 43)).alloc (.cells #[.int .i64 a, .int .i64 b, .int .i64 c] 24)).alloc (.cells #[.int .i64 0, .int .i64 0, .int .i64 0] 24))) (by (repeat' (first | (with_reducible exact Below.refl _ _) | (with_reducible refine Below.alloc ?_ ?_ _) | (with_reducible refine Below.setCell ?_ ?_ _) | (with_reducible refine Below.drew ?_) | (with_reducible refine below_drewN ?_ _) | (with_reducible assumption) | (with_reducible refine below_after (by with_reducible assumption) ?_) | go_size)))
      (try simp only [World.size_alloc] at h)
      rw [hG] at h
      rw [hw0]; exact h
    have HR : Hid (Bk3 w0 (GM + 1 + 1) 0 0 0) := by
      have h := (bk3_new ((w.alloc (.cells #[.int .i64 m0, .int .i64 m1, .int .i64 m2, .int .i64 m3, .int .i64 m4, .int .i64 m5, .int .i64 m6, .int .i64 m7, .int .i64 m8] 43)).alloc (.cells #[.int .i64 a, .int .i64 b, .int .i64 c] 24)) 0 0 0 24).below (W' := (((w.alloc (.cells #[.int .i64 m0, .int .i64 m1, .int .i64 m2, .int .i64 m3, .int .i64 m4, .int .i64 m5, .int .i64 m6, .int .i64 m7, .int .i64 m8] 43)).alloc (.cells #[.int .i64 a, .int .i64 b, .int .i64 c] 24)).alloc (.cells #[.int .i64 0, .int .i64 0, .int .i64 0] 24))) (by (repeat' (first | (with_reducible exact Below.refl _ _) | (with_reducible refine Below.alloc ?_ ?_ _) | (with_reducible refine Below.setCell ?_ ?_ _) | (with_reducible refine Below.drew ?_) | (with_reducible refine below_drewN ?_ _) | (with_reducible assumption) | (with_reducible refine below_after (by with_reducible assumption) ?_) | go_size)))
      (try simp only [World.size_alloc] at h)
      rw [hG] at h
      rw [hw0]; exact h
    have HB : Hid (Below w.heap.size w w0) := by show Below w.heap.size w w0; rw [hw0]; (repeat' (first | (with_reducible exact Below.refl _ _) | (with_reducible refine Below.alloc ?_ ?_ _) | (with_reducible refine Below.setCell ?_ ?_ _) | (with_reducible refine Below.drew ?_) | (with_reducible refine below_drewN ?_ _) | (with_reducible assumption) | (with_reducible refine below_after (by with_reducible assumption) ?_) | go_size))
    clear hw0
    obtain ⟨GR, hGR⟩ : ∃ g, GM + 1 + 1 = g := ⟨_, rfl⟩
    rw [hGR] at HR ⊢
    obtain ⟨GT, hGT⟩ : ∃ g, GM + 1 = g := ⟨_, rfl⟩
    rw [hGT] at HT ⊢
    have le_M : w.heap.size ≤ GM := by omega
    have le_T : w.heap.size ≤ GT := by omega
    have ne_T_M : GT ≠ GM := by omega
    have ne_M_T : GM ≠ GT := by omega
    have le_R : w.heap.size ≤ GR := by omega
    have ne_R_M : GR ≠ GM := by omega
    have ne_M_R : GM ≠ GR := by omega
    have ne_R_T : GR ≠ GT := by omega
    have ne_T_R : GT ≠ GR := by omega
    clear hGT hGR
    obtain ⟨⟨qM0, qM1, qM2, qM3, qM4, qM5, qM6, qM7, qM8⟩, ⟨fM0, fM1, fM2, fM3, fM4, fM5, fM6, fM7, fM8⟩, zM⟩ := HM.out
    obtain ⟨⟨qT0, qT1, qT2⟩, ⟨fT0, fT1, fT2⟩, zT⟩ := HT.out
    obtain ⟨⟨qR0, qR1, qR2⟩, ⟨fR0, fR1, fR2⟩, zR⟩ := HR.out
    go_wp2_with fail
    go_at_call 54
    refine (HIST.out _).mono ?_
    rintro e w1 ⟨rfl, hb⟩
    clear qM0 fM0 qM1 fM1 qM2 fM2 qM3 fM3 qM4 fM4 qM5 fM5 qM6 fM6 qM7 fM7 qM8 fM8 zM qT0 fT0 qT1 fT1 qT2 fT2 zT qR0 fR0 qR1 fR1 qR2 fR2 zR
    have HM := Lib.hid (HM.out.below hb)
    have HT := Lib.hid (HT.out.below hb)
    have HR := Lib.hid (HR.out.below hb)
    have HB := Lib.hid (below_after hb HB.out)
    clear hb
    obtain ⟨⟨qM0, qM1, qM2, qM3, qM4, qM5, qM6, qM7, qM8⟩, ⟨fM0, fM1, fM2, fM3, fM4, fM5, fM6, fM7, fM8⟩, zM⟩ := HM.out
    obtain ⟨⟨qT0, qT1, qT2⟩, ⟨fT0, fT1, fT2⟩, zT⟩ := HT.out
    obtain ⟨⟨qR0, qR1, qR2⟩, ⟨fR0, fR1, fR2⟩, zR⟩ := HR.out
    go_wp2_with fail
    refine bodyPost_ret (v := .tuple #[.agg #[.int .i64 0, .int .i64 0, .int .i64 0], .int .i64 1]) (by simp (maxDischargeDepth := 8) [results, Try.results38, go_sem, *]) rfl ?_
    have hb := HB.out
    exact ⟨rfl, by (repeat' (first | (with_reducible exact Below.refl _ _) | (with_reducible refine Below.alloc ?_ ?_ _) | (with_reducible refine Below.setCell ?_ ?_ _) | (with_reducible refine Below.drew ?_) | (with_reducible refine below_drewN ?_ _) | (with_reducible assumption) | (with_reducible refine below_after (by with_reducible assumption) ?_) | go_size))⟩
  · rw [ht] at HIST
    have HFIT := Lib.hid (fun w => l07Fits_any m0 m1 m2 m3 m4 m5 m6 m7 m8 w)
    cases hf : fit9 (nine m0 m1 m2 m3 m4 m5 m6 m7 m8)
    · have e1 : apK m0 m1 m2 m3 m4 m5 m6 m7 m8 a b c = 2 := by unfold apK; rw [if_pos ht, if_neg (by rw [hf]; decide)]
      have e2 : ∀ x, apV m0 m1 m2 m3 m4 m5 m6 m7 m8 a b c x = 0 := fun x => by unfold apV; rw [if_neg (by rw [e1]; decide)]
      rw [e1, e2, e2, e2]
      rw [hf] at HFIT
      clear ht hf e1 e2
      obtain ⟨GM, hG⟩ : ∃ G, w.heap.size = G := ⟨_, rfl⟩
      have HG := Lib.hid hG
      go_enter Try.func38, Try.ntmps38
      go_upto_region 1 with fail
      obtain ⟨w0, hw0⟩ : ∃ w0, w0 = (((w.alloc (.cells #[.int .i64 m0, .int .i64 m1, .int .i64 m2, .int .i64 m3, .int .i64 m4, .int .i64 m5, .int .i64 m6, .int .i64 m7, .int .i64 m8] 43)).alloc (.cells #[.int .i64 a, .int .i64 b, .int .i64 c] 24)).alloc (.cells #[.int .i64 0, .int .i64 0, .int .i64 0] 24)) := ⟨_, rfl⟩
      rw [← hw0]
      have HM : Hid (Bk9 w0 GM m0 m1 m2 m3 m4 m5 m6 m7 m8) := by
        have h := (bk9_new w m0 m1 m2 m3 m4 m5 m6 m7 m8 43).below (W' := (((w.alloc (.cells #[.int .i64 m0, .int .i64 m1, .int .i64 m2, .int .i64 m3, .int .i64 m4, .int .i64 m5, .int .i64 m6, .int .i64 m7, .int .i64 m8] 43)).alloc (.cells #[.int .i64 a, .int .i64 b, .int .i64 c] 24)).alloc (.cells #[.int .i64 0, .int .i64 0, .int .i64 0] 24))) (by (repeat' (first | (with_reducible exact Below.refl _ _) | (with_reducible refine Below.alloc ?_ ?_ _) | (with_reducible refine Below.setCell ?_ ?_ _) | (with_reducible refine Below.drew ?_) | (with_reducible refine below_drewN ?_ _) | (with_reducible assumption) | (with_reducible refine below_after (by with_reducible assumption) ?_) | go_size)))
        (try simp only [World.size_alloc] at h)
        rw [hG] at h
        rw [hw0]; exact h
      have HT : Hid (Bk3 w0 (GM + 1) a b c) := by
        have h := (bk3_new (w.alloc (.cells #[.int .i64 m0, .int .i64 m1, .int .i64 m2, .int .i64 m3, .int .i64 m4, .int .i64 m5, .int .i64 m6, .int .i64 m7, .int .i64 m8] 43)) a b c 24).below (W' := (((w.alloc (.cells #[.int .i64 m0, .int .i64 m1, .int .i64 m2, .int .i64 m3, .int .i64 m4, .int .i64 m5, .int .i64 m6, .int .i64 m7, .int .i64 m8] 43)).alloc (.cells #[.int .i64 a, .int .i64 b, .int .i64 c] 24)).alloc (.cells #[.int .i64 0, .int .i64 0, .int .i64 0] 24))) (by (repeat' (first | (with_reducible exact Below.refl _ _) | (with_reducible refine Below.alloc ?_ ?_ _) | (with_reducible refine Below.setCell ?_ ?_ _) | (with_reducible refine Below.drew ?_) | (with_reducible refine below_drewN ?_ _) | (with_reducible assumption) | (with_reducible refine below_after (by with_reducible assumption) ?_) | go_size)))
        (try simp only [World.size_alloc] at h)
        rw [hG] at h
        rw [hw0]; exact h
      have HR : Hid (Bk3 w0 (GM + 1 + 1) 0 0 0) := by
        have h := (bk3_new ((w.alloc (.cells #[.int .i64 m0, .int .i64 m1, .int .i64 m2, .int .i64 m3, .int .i64 m4, .int .i64 m5, .int .i64 m6, .int .i64 m7, .int .i64 m8] 43)).alloc (.cells #[.int .i64 a, .int .i64 b, .int .i64 c] 24)) 0 0 0 24).below (W' := (((w.alloc (.cells #[.int .i64 m0, .int .i64 m1, .int .i64 m2, .int .i64 m3, .int .i64 m4, .int .i64 m5, .int .i64 m6, .int .i64 m7, .int .i64 m8] 43)).alloc (.cells #[.int .i64 a, .int .i64 b, .int .i64 c] 24)).alloc (.cells #[.int .i64 0, .int .i64 0, .int .i64 0] 24))) (by (repeat' (first | (with_reducible exact Below.refl _ _) | (with_reducible refine Below.alloc ?_ ?_ _) | (with_reducible refine Below.setCell ?_ ?_ _) | (with_reducible refine Below.drew ?_) | (with_reducible refine below_drewN ?_ _) | (with_reducible assumption) | (with_reducible refine below_after (by with_reducible assumption) ?_) | go_size)))
        (try simp only [World.size_alloc] at h)
        rw [hG] at h
        rw [hw0]; exact h
      have HB : Hid (Below w.heap.size w w0) := by show Below w.heap.size w w0; rw [hw0]; (repeat' (first | (with_reducible exact Below.refl _ _) | (with_reducible refine Below.alloc ?_ ?_ _) | (with_reducible refine Below.setCell ?_ ?_ _) | (with_reducible refine Below.drew ?_) | (with_reducible refine below_drewN ?_ _) | (with_reducible assumption) | (with_reducible refine below_after (by with_reducible assumption) ?_) | go_size))
      clear hw0
      obtain ⟨GR, hGR⟩ : ∃ g, GM + 1 + 1 = g := ⟨_, rfl⟩
      rw [hGR] at HR ⊢
      obtain ⟨GT, hGT⟩ : ∃ g, GM + 1 = g := ⟨_, rfl⟩
      rw [hGT] at HT ⊢
      have le_M : w.heap.size ≤ GM := by omega
      have le_T : w.heap.size ≤ GT := by omega
      have ne_T_M : GT ≠ GM := by omega
      have ne_M_T : GM ≠ GT := by omega
      have le_R : w.heap.size ≤ GR := by omega
      have ne_R_M : GR ≠ GM := by omega
      have ne_M_R : GM ≠ GR := by omega
      have ne_R_T : GR ≠ GT := by omega
      have ne_T_R : GT ≠ GR := by omega
      clear hGT hGR
      obtain ⟨⟨qM0, qM1, qM2, qM3, qM4, qM5, qM6, qM7, qM8⟩, ⟨fM0, fM1, fM2, fM3, fM4, fM5, fM6, fM7, fM8⟩, zM⟩ := HM.out
      obtain ⟨⟨qT0, qT1, qT2⟩, ⟨fT0, fT1, fT2⟩, zT⟩ := HT.out
      obtain ⟨⟨qR0, qR1, qR2⟩, ⟨fR0, fR1, fR2⟩, zR⟩ := HR.out
      go_wp2_with fail
      go_at_call 54
      refine (HIST.out _).mono ?_
      rintro e w1 ⟨rfl, hb⟩
      clear qM0 fM0 qM1 fM1 qM2 fM2 qM3 fM3 qM4 fM4 qM5 fM5 qM6 fM6 qM7 fM7 qM8 fM8 zM qT0 fT0 qT1 fT1 qT2 fT2 zT qR0 fR0 qR1 fR1 qR2 fR2 zR
      have HM := Lib.hid (HM.out.below hb)
      have HT := Lib.hid (HT.out.below hb)
      have HR := Lib.hid (HR.out.below hb)
      have HB := Lib.hid (below_after hb HB.out)
      clear hb
      obtain ⟨⟨qM0, qM1, qM2, qM3, qM4, qM5, qM6, qM7, qM8⟩, ⟨fM0, fM1, fM2, fM3, fM4, fM5, fM6, fM7, fM8⟩, zM⟩ := HM.out
      obtain ⟨⟨qT0, qT1, qT2⟩, ⟨fT0, fT1, fT2⟩, zT⟩ := HT.out
      obtain ⟨⟨qR0, qR1, qR2⟩, ⟨fR0, fR1, fR2⟩, zR⟩ := HR.out
      go_wp2_with fail
      go_at_call 71
      refine (HFIT.out _).mono ?_
      rintro e w2 ⟨rfl, hb⟩
      clear qM0 fM0 qM1 fM1 qM2 fM2 qM3 fM3 qM4 fM4 qM5 fM5 qM6 fM6 qM7 fM7 qM8 fM8 zM qT0 fT0 qT1 fT1 qT2 fT2 zT qR0 fR0 qR1 fR1 qR2 fR2 zR
      have HM := Lib.hid (HM.out.below hb)
      have HT := Lib.hid (HT.out.below hb)
      have HR := Lib.hid (HR.out.below hb)
      have HB := Lib.hid (below_after hb HB.out)
      clear hb
      obtain ⟨⟨qM0, qM1, qM2, qM3, qM4, qM5, qM6, qM7, qM8⟩, ⟨fM0, fM1, fM2, fM3, fM4, fM5, fM6, fM7, fM8⟩, zM⟩ := HM.out
      obtain ⟨⟨qT0, qT1, qT2⟩, ⟨fT0, fT1, fT2⟩, zT⟩ := HT.out
      obtain ⟨⟨qR0, qR1, qR2⟩, ⟨fR0, fR1, fR2⟩, zR⟩ := HR.out
      go_wp2_with fail
      refine bodyPost_ret (v := .tuple #[.agg #[.int .i64 0, .int .i64 0, .int .i64 0], .int .i64 2]) (by simp (maxDischargeDepth := 8) [results, Try.results38, go_sem, *]) rfl ?_
      have hb := HB.out
      exact ⟨rfl, by (repeat' (first | (with_reducible exact Below.refl _ _) | (with_reducible refine Below.alloc ?_ ?_ _) | (with_reducible refine Below.setCell ?_ ?_ _) | (with_reducible refine Below.drew ?_) | (with_reducible refine below_drewN ?_ _) | (with_reducible assumption) | (with_reducible refine below_after (by with_reducible assumption) ?_) | go_size))⟩
    · rw [hf] at HFIT
      have e1 : apK m0 m1 m2 m3 m4 m5 m6 m7 m8 a b c = asK (asS m0 m1 m2 a b c) (asS m3 m4 m5 a b c) (asS m6 m7 m8 a b c) := by unfold apK; rw [if_pos ht, if_pos hf]
      have e2 : ∀ x, apV m0 m1 m2 m3 m4 m5 m6 m7 m8 a b c x = asV (asS m0 m1 m2 a b c) (asS m3 m4 m5 a b c) (asS m6 m7 m8 a b c) x := fun x => by unfold apV asV; rw [e1]
      rw [e1, e2, e2, e2]
      have hb : ∀ c, c < 9 → 0 ≤ nine m0 m1 m2 m3 m4 m5 m6 m7 m8 c ∧ nine m0 m1 m2 m3 m4 m5 m6 m7 m8 c ≤ 1000000 := fun c hc => wh_iff.1 (fit9_iff.1 hf c hc)
      obtain ⟨ha, hbb, hc, _⟩ := isTr_parts ht
      have hp : ∀ i, i < 9 → ∀ z, (0 ≤ z ∧ z ≤ 1000000) → 0 ≤ nine m0 m1 m2 m3 m4 m5 m6 m7 m8 i * z ∧ nine m0 m1 m2 m3 m4 m5 m6 m7 m8 i * z ≤ 1000000000000 := fun i hi z hz => by
        have h := hb i hi
        have p0 := Int.mul_nonneg h.1 hz.1
        have p1 : nine m0 m1 m2 m3 m4 m5 m6 m7 m8 i * z ≤ 1000000 * 1000000 := Int.mul_le_mul h.2 hz.2 hz.1 (by omega)
        omega
      have q00 := hp 0 (by omega) a ha
      have q01 := hp 1 (by omega) b hbb
      have q02 := hp 2 (by omega) c hc
      have q10 := hp 3 (by omega) a ha
      have q11 := hp 4 (by omega) b hbb
      have q12 := hp 5 (by omega) c hc
      have q20 := hp 6 (by omega) a ha
      have q21 := hp 7 (by omega) b hbb
      have q22 := hp 8 (by omega) c hc
      simp only [nine] at q00 q01 q02 q10 q11 q12 q20 q21 q22
      refine spec_ApplySquare_ok m0 m1 m2 m3 m4 m5 m6 m7 m8 a b c (m0 * a) (m0 * a + m1 * b) (m0 * a + m1 * b + m2 * c) (m3 * a) (m3 * a + m4 * b) (m3 * a + m4 * b + m5 * c) (m6 * a) (m6 * a + m7 * b) (m6 * a + m7 * b + m8 * c) _ w (Lib.hid (by simp)) (Lib.hid (by rfl)) (Lib.hid (by rfl)) (Lib.hid (by simp)) (Lib.hid (by rfl)) (Lib.hid (by rfl)) (Lib.hid (by simp)) (Lib.hid (by rfl)) (Lib.hid (by rfl)) (Lib.hid hb) (Lib.hid ⟨ha, hbb, hc⟩) (Lib.hid (by omega)) (Lib.hid rfl) HIST HFIT
set_option maxHeartbeats 6400000 in
theorem impl_ApplySquare_ok (m0 m1 m2 m3 m4 m5 m6 m7 m8 a b c s01 s02 s03 s11 s12 s13 s21 s22 s23 : Int) (E : Value) (w : World) (e00 : Hid (0 + m0 * a = s01)) (e01 : Hid (s01 + m1 * b = s02)) (e02 : Hid (s02 + m2 * c = s03)) (e10 : Hid (0 + m3 * a = s11)) (e11 : Hid (s11 + m4 * b = s12)) (e12 : Hid (s12 + m5 * c = s13)) (e20 : Hid (0 + m6 * a = s21)) (e21 : Hid (s21 + m7 * b = s22)) (e22 : Hid (s22 + m8 * c = s23)) (HBM : Hid (∀ c, c < 9 → 0 ≤ nine m0 m1 m2 m3 m4 m5 m6 m7 m8 c ∧ nine m0 m1 m2 m3 m4 m5 m6 m7 m8 c ≤ 1000000)) (HBT : Hid ((0 ≤ a ∧ a ≤ 1000000) ∧ (0 ≤ b ∧ b ≤ 1000000) ∧ (0 ≤ c ∧ c ≤ 1000000))) (HBS : Hid ((0 ≤ s01 ∧ s01 ≤ 3000000000000) ∧ (0 ≤ s02 ∧ s02 ≤ 3000000000000) ∧ (0 ≤ s03 ∧ s03 ≤ 3000000000000) ∧ (0 ≤ s11 ∧ s11 ≤ 3000000000000) ∧ (0 ≤ s12 ∧ s12 ≤ 3000000000000) ∧ (0 ≤ s13 ∧ s13 ≤ 3000000000000) ∧ (0 ≤ s21 ∧ s21 ≤ 3000000000000) ∧ (0 ≤ s22 ∧ s22 ≤ 3000000000000) ∧ (0 ≤ s23 ∧ s23 ≤ 3000000000000))) (HRES : Hid (E = .tuple #[.agg #[.int .i64 (asV s03 s13 s23 s03), .int .i64 (asV s03 s13 s23 s13), .int .i64 (asV s03 s13 s23 s23)], .int .i64 (asK s03 s13 s23)])) (HIST : Hid (∀ w, Calls Try.prog 18 #[.agg #[.int .i64 a, .int .i64 b, .int .i64 c]] w fun e w' => e = .returned (.bool true) ∧ Below w.heap.size w w')) (HFIT : Hid (∀ w, Calls Try.prog 72 #[.agg #[.int .i64 m0, .int .i64 m1, .int .i64 m2, .int .i64 m3, .int .i64 m4, .int .i64 m5, .int .i64 m6, .int .i64 m7, .int .i64 m8]] w fun e w' => e = .returned (.bool true) ∧ Below w.heap.size w w')) :
    Calls Try.prog 40 #[.agg #[.int .i64 m0, .int .i64 m1, .int .i64 m2, .int .i64 m3, .int .i64 m4, .int .i64 m5, .int .i64 m6, .int .i64 m7, .int .i64 m8], .agg #[.int .i64 a, .int .i64 b, .int .i64 c]] w fun e w' => e = .returned (E) ∧ Below w.heap.size w w' := by
  have hidx0 : ∀ w : World, (Instr.index 43 (.agg #[.int .i64 m0, .int .i64 m1, .int .i64 m2, .int .i64 m3, .int .i64 m4, .int .i64 m5, .int .i64 m6, .int .i64 m7, .int .i64 m8]) (.int .i64 0)).run Try.prog w = .ok (.agg #[.int .i64 m0, .int .i64 m1, .int .i64 m2]) w := fun _ => by kernel_rfl
  have hidx1 : ∀ w : World, (Instr.index 43 (.agg #[.int .i64 m0, .int .i64 m1, .int .i64 m2, .int .i64 m3, .int .i64 m4, .int .i64 m5, .int .i64 m6, .int .i64 m7, .int .i64 m8]) (.int .i64 1)).run Try.prog w = .ok (.agg #[.int .i64 m3, .int .i64 m4, .int .i64 m5]) w := fun _ => by kernel_rfl
  have hidx2 : ∀ w : World, (Instr.index 43 (.agg #[.int .i64 m0, .int .i64 m1, .int .i64 m2, .int .i64 m3, .int .i64 m4, .int .i64 m5, .int .i64 m6, .int .i64 m7, .int .i64 m8]) (.int .i64 2)).run Try.prog w = .ok (.agg #[.int .i64 m6, .int .i64 m7, .int .i64 m8]) w := fun _ => by kernel_rfl
  have hidy00 : ∀ w : World, (Instr.index 22 (.agg #[.int .i64 m0, .int .i64 m1, .int .i64 m2]) (.int .i64 0)).run Try.prog w = .ok (.int .i64 m0) w := fun _ => by kernel_rfl
  have hidy01 : ∀ w : World, (Instr.index 22 (.agg #[.int .i64 m0, .int .i64 m1, .int .i64 m2]) (.int .i64 1)).run Try.prog w = .ok (.int .i64 m1) w := fun _ => by kernel_rfl
  have hidy02 : ∀ w : World, (Instr.index 22 (.agg #[.int .i64 m0, .int .i64 m1, .int .i64 m2]) (.int .i64 2)).run Try.prog w = .ok (.int .i64 m2) w := fun _ => by kernel_rfl
  have hidy10 : ∀ w : World, (Instr.index 22 (.agg #[.int .i64 m3, .int .i64 m4, .int .i64 m5]) (.int .i64 0)).run Try.prog w = .ok (.int .i64 m3) w := fun _ => by kernel_rfl
  have hidy11 : ∀ w : World, (Instr.index 22 (.agg #[.int .i64 m3, .int .i64 m4, .int .i64 m5]) (.int .i64 1)).run Try.prog w = .ok (.int .i64 m4) w := fun _ => by kernel_rfl
  have hidy12 : ∀ w : World, (Instr.index 22 (.agg #[.int .i64 m3, .int .i64 m4, .int .i64 m5]) (.int .i64 2)).run Try.prog w = .ok (.int .i64 m5) w := fun _ => by kernel_rfl
  have hidy20 : ∀ w : World, (Instr.index 22 (.agg #[.int .i64 m6, .int .i64 m7, .int .i64 m8]) (.int .i64 0)).run Try.prog w = .ok (.int .i64 m6) w := fun _ => by kernel_rfl
  have hidy21 : ∀ w : World, (Instr.index 22 (.agg #[.int .i64 m6, .int .i64 m7, .int .i64 m8]) (.int .i64 1)).run Try.prog w = .ok (.int .i64 m7) w := fun _ => by kernel_rfl
  have hidy22 : ∀ w : World, (Instr.index 22 (.agg #[.int .i64 m6, .int .i64 m7, .int .i64 m8]) (.int .i64 2)).run Try.prog w = .ok (.int .i64 m8) w := fun _ => by kernel_rfl
  obtain ⟨GM, hG⟩ : ∃ G, w.heap.size = G := ⟨_, rfl⟩
  have HG := Lib.hid hG
  go_enter Try.func40, Try.ntmps40
  go_upto_region 1 with fail
  obtain ⟨w0, hw0⟩ : ∃ w0, w0 = (((w.alloc (.cells #[.int .i64 m0, .int .i64 m1, .int .i64 m2, .int .i64 m3, .int .i64 m4, .int .i64 m5, .int .i64 m6, .int .i64 m7, .int .i64 m8] 43)).alloc (.cells #[.int .i64 a, .int .i64 b, .int .i64 c] 24)).alloc (.cells #[.int .i64 0, .int .i64 0, .int .i64 0] 24)) := ⟨_, rfl⟩
  rw [← hw0]
  have HM : Hid (Bk9 w0 GM m0 m1 m2 m3 m4 m5 m6 m7 m8) := by
    have h := (bk9_new w m0 m1 m2 m3 m4 m5 m6 m7 m8 43).below (W' := (((w.alloc (.cells #[.int .i64 m0, .int .i64 m1, .int .i64 m2, .int .i64 m3, .int .i64 m4, .int .i64 m5, .int .i64 m6, .int .i64 m7, .int .i64 m8] 43)).alloc (.cells #[.int .i64 a, .int .i64 b, .int .i64 c] 24)).alloc (.cells #[.int .i64 0, .int .i64 0, .int .i64 0] 24))) (by (repeat' (first | (with_reducible exact Below.refl _ _) | (with_reducible refine Below.alloc ?_ ?_ _) | (with_reducible refine Below.setCell ?_ ?_ _) | (with_reducible refine Below.drew ?_) | (with_reducible refine below_drewN ?_ _) | (with_reducible assumption) | (with_reducible refine below_after (by with_reducible assumption) ?_) | go_size)))
    (try simp only [World.size_alloc] at h)
    rw [hG] at h
    rw [hw0]; exact h
  have HT : Hid (Bk3 w0 (GM + 1) a b c) := by
    have h := (bk3_new (w.alloc (.cells #[.int .i64 m0, .int .i64 m1, .int .i64 m2, .int .i64 m3, .int .i64 m4, .int .i64 m5, .int .i64 m6, .int .i64 m7, .int .i64 m8] 43)) a b c 24).below (W' := (((w.alloc (.cells #[.int .i64 m0, .int .i64 m1, .int .i64 m2, .int .i64 m3, .int .i64 m4, .int .i64 m5, .int .i64 m6, .int .i64 m7, .int .i64 m8] 43)).alloc (.cells #[.int .i64 a, .int .i64 b, .int .i64 c] 24)).alloc (.cells #[.int .i64 0, .int .i64 0, .int .i64 0] 24))) (by (repeat' (first | (with_reducible exact Below.refl _ _) | (with_reducible refine Below.alloc ?_ ?_ _) | (with_reducible refine Below.setCell ?_ ?_ _) | (with_reducible refine Below.drew ?_) | (with_reducible refine below_drewN ?_ _) | (with_reducible assumption) | (with_reducible refine below_after (by with_reducible assumption) ?_) | go_size)))
    (try simp only [World.size_alloc] at h)
    rw [hG] at h
    rw [hw0]; exact h
  have HR : Hid (Bk3 w0 (GM + 1 + 1) 0 0 0) := by
    have h := (bk3_new ((w.alloc (.cells #[.int .i64 m0, .int .i64 m1, .int .i64 m2, .int .i64 m3, .int .i64 m4, .int .i64 m5, .int .i64 m6, .int .i64 m7, .int .i64 m8] 43)).alloc (.cells #[.int .i64 a, .int .i64 b, .int .i64 c] 24)) 0 0 0 24).below (W' := (((w.alloc (.cells #[.int .i64 m0, .int .i64 m1, .int .i64 m2, .int .i64 m3, .int .i64 m4, .int .i64 m5, .int .i64 m6, .int .i64 m7, .int .i64 m8] 43)).alloc (.cells #[.int .i64 a, .int .i64 b, .int .i64 c] 24)).alloc (.cells #[.int .i64 0, .int .i64 0, .int .i64 0] 24))) (by (repeat' (first | (with_reducible exact Below.refl _ _) | (with_reducible refine Below.alloc ?_ ?_ _) | (with_reducible refine Below.setCell ?_ ?_ _) | (with_reducible refine Below.drew ?_) | (with_reducible refine below_drewN ?_ _) | (with_reducible assumption) | (with_reducible refine below_after (by with_reducible assumption) ?_) | go_size)))
    (try simp only [World.size_alloc] at h)
    rw [hG] at h
    rw [hw0]; exact h
  have HB : Hid (Below w.heap.size w w0) := by show Below w.heap.size w w0; rw [hw0]; (repeat' (first | (with_reducible exact Below.refl _ _) | (with_reducible refine Below.alloc ?_ ?_ _) | (with_reducible refine Below.setCell ?_ ?_ _) | (with_reducible refine Below.drew ?_) | (with_reducible refine below_drewN ?_ _) | (with_reducible assumption) | (with_reducible refine below_after (by with_reducible assumption) ?_) | go_size))
  clear hw0
  obtain ⟨GR, hGR⟩ : ∃ g, GM + 1 + 1 = g := ⟨_, rfl⟩
  rw [hGR] at HR ⊢
  obtain ⟨GT, hGT⟩ : ∃ g, GM + 1 = g := ⟨_, rfl⟩
  rw [hGT] at HT ⊢
  have le_M : w.heap.size ≤ GM := by omega
  have le_T : w.heap.size ≤ GT := by omega
  have ne_T_M : GT ≠ GM := by omega
  have ne_M_T : GM ≠ GT := by omega
  have le_R : w.heap.size ≤ GR := by omega
  have ne_R_M : GR ≠ GM := by omega
  have ne_M_R : GM ≠ GR := by omega
  have ne_R_T : GR ≠ GT := by omega
  have ne_T_R : GT ≠ GR := by omega
  clear hGT hGR
  obtain ⟨⟨qM0, qM1, qM2, qM3, qM4, qM5, qM6, qM7, qM8⟩, ⟨fM0, fM1, fM2, fM3, fM4, fM5, fM6, fM7, fM8⟩, zM⟩ := HM.out
  obtain ⟨⟨qT0, qT1, qT2⟩, ⟨fT0, fT1, fT2⟩, zT⟩ := HT.out
  obtain ⟨⟨qR0, qR1, qR2⟩, ⟨fR0, fR1, fR2⟩, zR⟩ := HR.out
  go_wp2_with fail
  go_at_call 18
  refine (HIST.out _).mono ?_
  rintro e w1 ⟨rfl, hb⟩
  clear qM0 fM0 qM1 fM1 qM2 fM2 qM3 fM3 qM4 fM4 qM5 fM5 qM6 fM6 qM7 fM7 qM8 fM8 zM qT0 fT0 qT1 fT1 qT2 fT2 zT qR0 fR0 qR1 fR1 qR2 fR2 zR
  have HM := Lib.hid (HM.out.below hb)
  have HT := Lib.hid (HT.out.below hb)
  have HR := Lib.hid (HR.out.below hb)
  have HB := Lib.hid (below_after hb HB.out)
  clear hb
  obtain ⟨⟨qM0, qM1, qM2, qM3, qM4, qM5, qM6, qM7, qM8⟩, ⟨fM0, fM1, fM2, fM3, fM4, fM5, fM6, fM7, fM8⟩, zM⟩ := HM.out
  obtain ⟨⟨qT0, qT1, qT2⟩, ⟨fT0, fT1, fT2⟩, zT⟩ := HT.out
  obtain ⟨⟨qR0, qR1, qR2⟩, ⟨fR0, fR1, fR2⟩, zR⟩ := HR.out
  go_wp2_with fail
  go_at_call 72
  refine (HFIT.out _).mono ?_
  rintro e w2 ⟨rfl, hb⟩
  clear qM0 fM0 qM1 fM1 qM2 fM2 qM3 fM3 qM4 fM4 qM5 fM5 qM6 fM6 qM7 fM7 qM8 fM8 zM qT0 fT0 qT1 fT1 qT2 fT2 zT qR0 fR0 qR1 fR1 qR2 fR2 zR
  have HM := Lib.hid (HM.out.below hb)
  have HT := Lib.hid (HT.out.below hb)
  have HR := Lib.hid (HR.out.below hb)
  have HB := Lib.hid (below_after hb HB.out)
  clear hb
  obtain ⟨⟨qM0, qM1, qM2, qM3, qM4, qM5, qM6, qM7, qM8⟩, ⟨fM0, fM1, fM2, fM3, fM4, fM5, fM6, fM7, fM8⟩, zM⟩ := HM.out
  obtain ⟨⟨qT0, qT1, qT2⟩, ⟨fT0, fT1, fT2⟩, zT⟩ := HT.out
  obtain ⟨⟨qR0, qR1, qR2⟩, ⟨fR0, fR1, fR2⟩, zR⟩ := HR.out
  go_upto_region 6 with fail
  obtain ⟨GS, hGS⟩ : ∃ g, w2.heap.size = g := ⟨_, rfl⟩
  obtain ⟨w3, hw3⟩ : ∃ wx, wx = w2.alloc (.cells #[.int .i64 0, .int .i64 0, .int .i64 0] 24) := ⟨_, rfl⟩
  rw [← hw3, hGS]
  have HS : Hid (Bk3 w3 GS 0 0 0) := by rw [hw3, ← hGS]; exact bk3_new w2 0 0 0 _
  have le_S : w.heap.size ≤ GS := by rw [← hGS]; exact HB.out.size
  have ne_S_M : GS ≠ GM := by have := HM.out.2.2; omega
  have ne_M_S : GM ≠ GS := Ne.symm ne_S_M
  have ne_S_T : GS ≠ GT := by have := HT.out.2.2; omega
  have ne_T_S : GT ≠ GS := Ne.symm ne_S_T
  have ne_S_R : GS ≠ GR := by have := HR.out.2.2; omega
  have ne_R_S : GR ≠ GS := Ne.symm ne_S_R
  clear qM0 fM0 qM1 fM1 qM2 fM2 qM3 fM3 qM4 fM4 qM5 fM5 qM6 fM6 qM7 fM7 qM8 fM8 zM qT0 fT0 qT1 fT1 qT2 fT2 zT qR0 fR0 qR1 fR1 qR2 fR2 zR
  have HM := Lib.hid (HM.out.below ((Below.refl _ _).alloc (Nat.le_refl _) (.cells #[.int .i64 0, .int .i64 0, .int .i64 0] 24)))
  have HT := Lib.hid (HT.out.below ((Below.refl _ _).alloc (Nat.le_refl _) (.cells #[.int .i64 0, .int .i64 0, .int .i64 0] 24)))
  have HR := Lib.hid (HR.out.below ((Below.refl _ _).alloc (Nat.le_refl _) (.cells #[.int .i64 0, .int .i64 0, .int .i64 0] 24)))
  have HB := Lib.hid (Below.alloc HB.out HB.out.size (.cells #[.int .i64 0, .int .i64 0, .int .i64 0] 24))
  rw [← hw3] at HM HT HR HB
  clear hw3 hGS
  obtain ⟨⟨qM0, qM1, qM2, qM3, qM4, qM5, qM6, qM7, qM8⟩, ⟨fM0, fM1, fM2, fM3, fM4, fM5, fM6, fM7, fM8⟩, zM⟩ := HM.out
  obtain ⟨⟨qT0, qT1, qT2⟩, ⟨fT0, fT1, fT2⟩, zT⟩ := HT.out
  obtain ⟨⟨qR0, qR1, qR2⟩, ⟨fR0, fR1, fR2⟩, zR⟩ := HR.out
  obtain ⟨⟨qS0, qS1, qS2⟩, ⟨fS0, fS1, fS2⟩, zS⟩ := HS.out
  go_wp2_with fail
  clear qM0 fM0 qM1 fM1 qM2 fM2 qM3 fM3 qM4 fM4 qM5 fM5 qM6 fM6 qM7 fM7 qM8 fM8 zM qT0 fT0 qT1 fT1 qT2 fT2 zT qR0 fR0 qR1 fR1 qR2 fR2 zR qS0 fS0 qS1 fS1 qS2 fS2 zS
  clear HM
  have HNE := Lib.hid (And.intro ne_S_T (And.intro ne_T_S (And.intro ne_S_R (And.intro ne_R_S le_S))))
  clear HIST HFIT
  go_loopw [20] (fun y wr => ∃ i : Nat, y = .int .i64 (i : Int) ∧ i ≤ 3 ∧ SqA wr GS i s03 s13 s23 ∧ Bk3 wr GT a b c ∧ Bk3 wr GR 0 0 0 ∧ Below w.heap.size w wr) (fun y _ => 3 - (intOf y).toNat)
  case atStart => exact ⟨0, rfl, by omega, HS.out, HT.out, HR.out, HB.out⟩
  case round =>
    obtain ⟨i, rfl, hi, hS, hT, hR, hbel⟩ := hrel
    clear HS HT HR HB
    have HS0 := Lib.hid hS
    have HT := Lib.hid hT
    have HR := Lib.hid hR
    have HB := Lib.hid hbel
    clear hS hT hR hbel
    rcases (show i = 0 ∨ i = 1 ∨ i = 2 ∨ i = 3 by omega) with rfl | rfl | rfl | rfl
    · rw [show ((0 : Nat) : Int) = 0 from rfl]
      have HS : Hid (Bk3 wr GS 0 0 0) := HS0.out
      clear HS0
      have hne := HNE.out
      obtain ⟨ne_S_T, ne_T_S, ne_S_R, ne_R_S, le_S⟩ := hne
      obtain ⟨⟨qS0, qS1, qS2⟩, ⟨fS0, fS1, fS2⟩, zS⟩ := HS.out
      obtain ⟨⟨qT0, qT1, qT2⟩, ⟨fT0, fT1, fT2⟩, zT⟩ := HT.out
      obtain ⟨⟨qR0, qR1, qR2⟩, ⟨fR0, fR1, fR2⟩, zR⟩ := HR.out
      go_upto_region 9 with fail
      obtain ⟨GW, hGW⟩ : ∃ g, wr.heap.size = g := ⟨_, rfl⟩
      obtain ⟨w21, hw21⟩ : ∃ wx, wx = wr.alloc (.cells #[.int .i64 m0, .int .i64 m1, .int .i64 m2] 22) := ⟨_, rfl⟩
      rw [← hw21, hGW]
      have HW : Hid (Bk3 w21 GW m0 m1 m2) := by rw [hw21, ← hGW]; exact bk3_new wr m0 m1 m2 _
      have le_W : w.heap.size ≤ GW := by rw [← hGW]; exact HB.out.size
      have ne_W_S : GW ≠ GS := by have := HS.out.2.2; omega
      have ne_S_W : GS ≠ GW := Ne.symm ne_W_S
      have ne_W_T : GW ≠ GT := by have := HT.out.2.2; omega
      have ne_T_W : GT ≠ GW := Ne.symm ne_W_T
      have ne_W_R : GW ≠ GR := by have := HR.out.2.2; omega
      have ne_R_W : GR ≠ GW := Ne.symm ne_W_R
      clear qS0 fS0 qS1 fS1 qS2 fS2 zS qT0 fT0 qT1 fT1 qT2 fT2 zT qR0 fR0 qR1 fR1 qR2 fR2 zR
      have HS := Lib.hid (HS.out.below ((Below.refl _ _).alloc (Nat.le_refl _) (.cells #[.int .i64 m0, .int .i64 m1, .int .i64 m2] 22)))
      have HT := Lib.hid (HT.out.below ((Below.refl _ _).alloc (Nat.le_refl _) (.cells #[.int .i64 m0, .int .i64 m1, .int .i64 m2] 22)))
      have HR := Lib.hid (HR.out.below ((Below.refl _ _).alloc (Nat.le_refl _) (.cells #[.int .i64 m0, .int .i64 m1, .int .i64 m2] 22)))
      have HB := Lib.hid (Below.alloc HB.out HB.out.size (.cells #[.int .i64 m0, .int .i64 m1, .int .i64 m2] 22))
      rw [← hw21] at HS HT HR HB
      clear hw21 hGW
      obtain ⟨⟨qS0, qS1, qS2⟩, ⟨fS0, fS1, fS2⟩, zS⟩ := HS.out
      obtain ⟨⟨qT0, qT1, qT2⟩, ⟨fT0, fT1, fT2⟩, zT⟩ := HT.out
      obtain ⟨⟨qR0, qR1, qR2⟩, ⟨fR0, fR1, fR2⟩, zR⟩ := HR.out
      obtain ⟨⟨qW0, qW1, qW2⟩, ⟨fW0, fW1, fW2⟩, zW⟩ := HW.out
      go_wp2_with fail
      clear qS0 fS0 qS1 fS1 qS2 fS2 zS qT0 fT0 qT1 fT1 qT2 fT2 zT qR0 fR0 qR1 fR1 qR2 fR2 zR qW0 fW0 qW1 fW1 qW2 fW2 zW
      clear HW
      go_loopw [25] (fun y wr => ∃ j : Nat, y = .int .i64 (j : Int) ∧ j ≤ 3 ∧ SqB0 wr GS j s01 s02 s03 s11 s12 s13 s21 s22 s23 ∧ Bk3 wr GT a b c ∧ Bk3 wr GR 0 0 0 ∧ Below w.heap.size w wr) (fun y _ => 3 - (intOf y).toNat)
      case atStart => exact ⟨0, rfl, by omega, HS.out, HT.out, HR.out, HB.out⟩
      case round =>
        obtain ⟨j, rfl, hj, hS, hT, hR, hbel⟩ := hrel
        clear HS HT HR HB
        have HS0 := Lib.hid hS
        have HT := Lib.hid hT
        have HR := Lib.hid hR
        have HB := Lib.hid hbel
        clear hS hT hR hbel
        rcases (show j = 0 ∨ j = 1 ∨ j = 2 ∨ j = 3 by omega) with rfl | rfl | rfl | rfl
        · rw [show ((0 : Nat) : Int) = 0 from rfl]
          have HS : Hid (Bk3 wr GS 0 0 0) := HS0.out
          clear HS0
          have bm := HBM.out 0 (by omega)
          have bt := HBT.out
          simp only [nine] at bm
          have pp0 := Int.mul_nonneg bm.1 (show 0 ≤ a by omega)
          have pp1 : m0 * a ≤ 1000000 * 1000000 := Int.mul_le_mul bm.2 (show a ≤ 1000000 by omega) (by omega) (by omega)
          have bs := HBS.out
          have ws1 : IntKind.i64.wrap (m0 * a) = m0 * a := by rw [IntKind.wrap_i64]; omega
          have ws2 : IntKind.i64.wrap (0 + m0 * a) = 0 + m0 * a := by rw [IntKind.wrap_i64]; omega
          have hE := e00.out
          obtain ⟨⟨qS0, qS1, qS2⟩, ⟨fS0, fS1, fS2⟩, zS⟩ := HS.out
          obtain ⟨⟨qT0, qT1, qT2⟩, ⟨fT0, fT1, fT2⟩, zT⟩ := HT.out
          obtain ⟨⟨qR0, qR1, qR2⟩, ⟨fR0, fR1, fR2⟩, zR⟩ := HR.out
          go_upto_region 12 with fail
          go_still_tail 10, (by kernel_rfl)
          change wpList _ _ _ _ _ (World.drew _)
          obtain ⟨w31, hw31⟩ : ∃ wx, wr.drew = wx := ⟨_, rfl⟩
          rw [hw31]
          clear qS0 fS0 qS1 fS1 qS2 fS2 zS qT0 fT0 qT1 fT1 qT2 fT2 zT qR0 fR0 qR1 fR1 qR2 fR2 zR
          have HS := Lib.hid (HS.out.below (Below.drew (Below.refl _ _)))
          have HT := Lib.hid (HT.out.below (Below.drew (Below.refl _ _)))
          have HR := Lib.hid (HR.out.below (Below.drew (Below.refl _ _)))
          have HB := Lib.hid (Below.drew HB.out)
          rw [hw31] at HS HT HR HB
          clear hw31
          obtain ⟨⟨qS0, qS1, qS2⟩, ⟨fS0, fS1, fS2⟩, zS⟩ := HS.out
          obtain ⟨⟨qT0, qT1, qT2⟩, ⟨fT0, fT1, fT2⟩, zT⟩ := HT.out
          obtain ⟨⟨qR0, qR1, qR2⟩, ⟨fR0, fR1, fR2⟩, zR⟩ := HR.out
          go_wp2_with fail
          clear qS0 fS0 qS1 fS1 qS2 fS2 zS qT0 fT0 qT1 fT1 qT2 fT2 zT qR0 fR0 qR1 fR1 qR2 fR2 zR
          have hset := HS.out.set0 (0 + m0 * a)
          rw [hE] at hset
          have hT2 := (HT.out.far ⟨GS, 0, none⟩ (.int .i64 (0 + m0 * a)) (by show GT ≠ GS; exact ne_T_S))
          have hR2 := (HR.out.far ⟨GS, 0, none⟩ (.int .i64 (0 + m0 * a)) (by show GR ≠ GS; exact ne_R_S))
          have hB2 := Below.setCell HB.out (p := ⟨GS, 0, none⟩) le_S (.int .i64 (0 + m0 * a))
          rw [hE] at hT2 hR2 hB2
          (try rw [hE])
          go_roundw
          case rel => exact ⟨0 + 1, by first | rfl | go_num, by omega, hset, hT2, hR2, hB2⟩
          case measure => simp only [intOf]; omega
        · rw [show ((1 : Nat) : Int) = 1 from rfl]
          have HS : Hid (Bk3 wr GS s01 0 0) := HS0.out
          clear HS0
          have bm := HBM.out 1 (by omega)
          have bt := HBT.out
          simp only [nine] at bm
          have pp0 := Int.mul_nonneg bm.1 (show 0 ≤ b by omega)
          have pp1 : m1 * b ≤ 1000000 * 1000000 := Int.mul_le_mul bm.2 (show b ≤ 1000000 by omega) (by omega) (by omega)
          have bs := HBS.out
          have ws1 : IntKind.i64.wrap (m1 * b) = m1 * b := by rw [IntKind.wrap_i64]; omega
          have ws2 : IntKind.i64.wrap (s01 + m1 * b) = s01 + m1 * b := by rw [IntKind.wrap_i64]; omega
          have hE := e01.out
          obtain ⟨⟨qS0, qS1, qS2⟩, ⟨fS0, fS1, fS2⟩, zS⟩ := HS.out
          obtain ⟨⟨qT0, qT1, qT2⟩, ⟨fT0, fT1, fT2⟩, zT⟩ := HT.out
          obtain ⟨⟨qR0, qR1, qR2⟩, ⟨fR0, fR1, fR2⟩, zR⟩ := HR.out
          go_upto_region 12 with fail
          go_still_tail 10, (by kernel_rfl)
          change wpList _ _ _ _ _ (World.drew _)
          obtain ⟨w31, hw31⟩ : ∃ wx, wr.drew = wx := ⟨_, rfl⟩
          rw [hw31]
          clear qS0 fS0 qS1 fS1 qS2 fS2 zS qT0 fT0 qT1 fT1 qT2 fT2 zT qR0 fR0 qR1 fR1 qR2 fR2 zR
          have HS := Lib.hid (HS.out.below (Below.drew (Below.refl _ _)))
          have HT := Lib.hid (HT.out.below (Below.drew (Below.refl _ _)))
          have HR := Lib.hid (HR.out.below (Below.drew (Below.refl _ _)))
          have HB := Lib.hid (Below.drew HB.out)
          rw [hw31] at HS HT HR HB
          clear hw31
          obtain ⟨⟨qS0, qS1, qS2⟩, ⟨fS0, fS1, fS2⟩, zS⟩ := HS.out
          obtain ⟨⟨qT0, qT1, qT2⟩, ⟨fT0, fT1, fT2⟩, zT⟩ := HT.out
          obtain ⟨⟨qR0, qR1, qR2⟩, ⟨fR0, fR1, fR2⟩, zR⟩ := HR.out
          go_wp2_with fail
          clear qS0 fS0 qS1 fS1 qS2 fS2 zS qT0 fT0 qT1 fT1 qT2 fT2 zT qR0 fR0 qR1 fR1 qR2 fR2 zR
          have hset := HS.out.set0 (s01 + m1 * b)
          rw [hE] at hset
          have hT2 := (HT.out.far ⟨GS, 0, none⟩ (.int .i64 (s01 + m1 * b)) (by show GT ≠ GS; exact ne_T_S))
          have hR2 := (HR.out.far ⟨GS, 0, none⟩ (.int .i64 (s01 + m1 * b)) (by show GR ≠ GS; exact ne_R_S))
          have hB2 := Below.setCell HB.out (p := ⟨GS, 0, none⟩) le_S (.int .i64 (s01 + m1 * b))
          rw [hE] at hT2 hR2 hB2
          (try rw [hE])
          go_roundw
          case rel => exact ⟨1 + 1, by first | rfl | go_num, by omega, hset, hT2, hR2, hB2⟩
          case measure => simp only [intOf]; omega
        · rw [show ((2 : Nat) : Int) = 2 from rfl]
          have HS : Hid (Bk3 wr GS s02 0 0) := HS0.out
          clear HS0
          have bm := HBM.out 2 (by omega)
          have bt := HBT.out
          simp only [nine] at bm
          have pp0 := Int.mul_nonneg bm.1 (show 0 ≤ c by omega)
          have pp1 : m2 * c ≤ 1000000 * 1000000 := Int.mul_le_mul bm.2 (show c ≤ 1000000 by omega) (by omega) (by omega)
          have bs := HBS.out
          have ws1 : IntKind.i64.wrap (m2 * c) = m2 * c := by rw [IntKind.wrap_i64]; omega
          have ws2 : IntKind.i64.wrap (s02 + m2 * c) = s02 + m2 * c := by rw [IntKind.wrap_i64]; omega
          have hE := e02.out
          obtain ⟨⟨qS0, qS1, qS2⟩, ⟨fS0, fS1, fS2⟩, zS⟩ := HS.out
          obtain ⟨⟨qT0, qT1, qT2⟩, ⟨fT0, fT1, fT2⟩, zT⟩ := HT.out
          obtain ⟨⟨qR0, qR1, qR2⟩, ⟨fR0, fR1, fR2⟩, zR⟩ := HR.out
          go_upto_region 12 with fail
          go_still_tail 10, (by kernel_rfl)
          change wpList _ _ _ _ _ (World.drew _)
          obtain ⟨w31, hw31⟩ : ∃ wx, wr.drew = wx := ⟨_, rfl⟩
          rw [hw31]
          clear qS0 fS0 qS1 fS1 qS2 fS2 zS qT0 fT0 qT1 fT1 qT2 fT2 zT qR0 fR0 qR1 fR1 qR2 fR2 zR
          have HS := Lib.hid (HS.out.below (Below.drew (Below.refl _ _)))
          have HT := Lib.hid (HT.out.below (Below.drew (Below.refl _ _)))
          have HR := Lib.hid (HR.out.below (Below.drew (Below.refl _ _)))
          have HB := Lib.hid (Below.drew HB.out)
          rw [hw31] at HS HT HR HB
          clear hw31
          obtain ⟨⟨qS0, qS1, qS2⟩, ⟨fS0, fS1, fS2⟩, zS⟩ := HS.out
          obtain ⟨⟨qT0, qT1, qT2⟩, ⟨fT0, fT1, fT2⟩, zT⟩ := HT.out
          obtain ⟨⟨qR0, qR1, qR2⟩, ⟨fR0, fR1, fR2⟩, zR⟩ := HR.out
          go_wp2_with fail
          clear qS0 fS0 qS1 fS1 qS2 fS2 zS qT0 fT0 qT1 fT1 qT2 fT2 zT qR0 fR0 qR1 fR1 qR2 fR2 zR
          have hset := HS.out.set0 (s02 + m2 * c)
          rw [hE] at hset
          have hT2 := (HT.out.far ⟨GS, 0, none⟩ (.int .i64 (s02 + m2 * c)) (by show GT ≠ GS; exact ne_T_S))
          have hR2 := (HR.out.far ⟨GS, 0, none⟩ (.int .i64 (s02 + m2 * c)) (by show GR ≠ GS; exact ne_R_S))
          have hB2 := Below.setCell HB.out (p := ⟨GS, 0, none⟩) le_S (.int .i64 (s02 + m2 * c))
          rw [hE] at hT2 hR2 hB2
          (try rw [hE])
          go_roundw
          case rel => exact ⟨2 + 1, by first | rfl | go_num, by omega, hset, hT2, hR2, hB2⟩
          case measure => simp only [intOf]; omega
        · rw [show ((3 : Nat) : Int) = 3 from rfl]
          have HS : Hid (Bk3 wr GS s03 0 0) := HS0.out
          clear HS0
          go_wp2_with fail
          go_roundw
          case rel => exact ⟨0 + 1, by first | rfl | go_num, by omega, HS.out, HT.out, HR.out, HB.out⟩
          case measure => simp only [intOf]; omega
    · rw [show ((1 : Nat) : Int) = 1 from rfl]
      have HS : Hid (Bk3 wr GS s03 0 0) := HS0.out
      clear HS0
      have hne := HNE.out
      obtain ⟨ne_S_T, ne_T_S, ne_S_R, ne_R_S, le_S⟩ := hne
      obtain ⟨⟨qS0, qS1, qS2⟩, ⟨fS0, fS1, fS2⟩, zS⟩ := HS.out
      obtain ⟨⟨qT0, qT1, qT2⟩, ⟨fT0, fT1, fT2⟩, zT⟩ := HT.out
      obtain ⟨⟨qR0, qR1, qR2⟩, ⟨fR0, fR1, fR2⟩, zR⟩ := HR.out
      go_upto_region 9 with fail
      obtain ⟨GW, hGW⟩ : ∃ g, wr.heap.size = g := ⟨_, rfl⟩
      obtain ⟨w21, hw21⟩ : ∃ wx, wx = wr.alloc (.cells #[.int .i64 m3, .int .i64 m4, .int .i64 m5] 22) := ⟨_, rfl⟩
      rw [← hw21, hGW]
      have HW : Hid (Bk3 w21 GW m3 m4 m5) := by rw [hw21, ← hGW]; exact bk3_new wr m3 m4 m5 _
      have le_W : w.heap.size ≤ GW := by rw [← hGW]; exact HB.out.size
      have ne_W_S : GW ≠ GS := by have := HS.out.2.2; omega
      have ne_S_W : GS ≠ GW := Ne.symm ne_W_S
      have ne_W_T : GW ≠ GT := by have := HT.out.2.2; omega
      have ne_T_W : GT ≠ GW := Ne.symm ne_W_T
      have ne_W_R : GW ≠ GR := by have := HR.out.2.2; omega
      have ne_R_W : GR ≠ GW := Ne.symm ne_W_R
      clear qS0 fS0 qS1 fS1 qS2 fS2 zS qT0 fT0 qT1 fT1 qT2 fT2 zT qR0 fR0 qR1 fR1 qR2 fR2 zR
      have HS := Lib.hid (HS.out.below ((Below.refl _ _).alloc (Nat.le_refl _) (.cells #[.int .i64 m3, .int .i64 m4, .int .i64 m5] 22)))
      have HT := Lib.hid (HT.out.below ((Below.refl _ _).alloc (Nat.le_refl _) (.cells #[.int .i64 m3, .int .i64 m4, .int .i64 m5] 22)))
      have HR := Lib.hid (HR.out.below ((Below.refl _ _).alloc (Nat.le_refl _) (.cells #[.int .i64 m3, .int .i64 m4, .int .i64 m5] 22)))
      have HB := Lib.hid (Below.alloc HB.out HB.out.size (.cells #[.int .i64 m3, .int .i64 m4, .int .i64 m5] 22))
      rw [← hw21] at HS HT HR HB
      clear hw21 hGW
      obtain ⟨⟨qS0, qS1, qS2⟩, ⟨fS0, fS1, fS2⟩, zS⟩ := HS.out
      obtain ⟨⟨qT0, qT1, qT2⟩, ⟨fT0, fT1, fT2⟩, zT⟩ := HT.out
      obtain ⟨⟨qR0, qR1, qR2⟩, ⟨fR0, fR1, fR2⟩, zR⟩ := HR.out
      obtain ⟨⟨qW0, qW1, qW2⟩, ⟨fW0, fW1, fW2⟩, zW⟩ := HW.out
      go_wp2_with fail
      clear qS0 fS0 qS1 fS1 qS2 fS2 zS qT0 fT0 qT1 fT1 qT2 fT2 zT qR0 fR0 qR1 fR1 qR2 fR2 zR qW0 fW0 qW1 fW1 qW2 fW2 zW
      clear HW
      go_loopw [25] (fun y wr => ∃ j : Nat, y = .int .i64 (j : Int) ∧ j ≤ 3 ∧ SqB1 wr GS j s01 s02 s03 s11 s12 s13 s21 s22 s23 ∧ Bk3 wr GT a b c ∧ Bk3 wr GR 0 0 0 ∧ Below w.heap.size w wr) (fun y _ => 3 - (intOf y).toNat)
      case atStart => exact ⟨0, rfl, by omega, HS.out, HT.out, HR.out, HB.out⟩
      case round =>
        obtain ⟨j, rfl, hj, hS, hT, hR, hbel⟩ := hrel
        clear HS HT HR HB
        have HS0 := Lib.hid hS
        have HT := Lib.hid hT
        have HR := Lib.hid hR
        have HB := Lib.hid hbel
        clear hS hT hR hbel
        rcases (show j = 0 ∨ j = 1 ∨ j = 2 ∨ j = 3 by omega) with rfl | rfl | rfl | rfl
        · rw [show ((0 : Nat) : Int) = 0 from rfl]
          have HS : Hid (Bk3 wr GS s03 0 0) := HS0.out
          clear HS0
          have bm := HBM.out 3 (by omega)
          have bt := HBT.out
          simp only [nine] at bm
          have pp0 := Int.mul_nonneg bm.1 (show 0 ≤ a by omega)
          have pp1 : m3 * a ≤ 1000000 * 1000000 := Int.mul_le_mul bm.2 (show a ≤ 1000000 by omega) (by omega) (by omega)
          have bs := HBS.out
          have ws1 : IntKind.i64.wrap (m3 * a) = m3 * a := by rw [IntKind.wrap_i64]; omega
          have ws2 : IntKind.i64.wrap (0 + m3 * a) = 0 + m3 * a := by rw [IntKind.wrap_i64]; omega
          have hE := e10.out
          obtain ⟨⟨qS0, qS1, qS2⟩, ⟨fS0, fS1, fS2⟩, zS⟩ := HS.out
          obtain ⟨⟨qT0, qT1, qT2⟩, ⟨fT0, fT1, fT2⟩, zT⟩ := HT.out
          obtain ⟨⟨qR0, qR1, qR2⟩, ⟨fR0, fR1, fR2⟩, zR⟩ := HR.out
          go_upto_region 12 with fail
          go_still_tail 10, (by kernel_rfl)
          change wpList _ _ _ _ _ (World.drew _)
          obtain ⟨w31, hw31⟩ : ∃ wx, wr.drew = wx := ⟨_, rfl⟩
          rw [hw31]
          clear qS0 fS0 qS1 fS1 qS2 fS2 zS qT0 fT0 qT1 fT1 qT2 fT2 zT qR0 fR0 qR1 fR1 qR2 fR2 zR
          have HS := Lib.hid (HS.out.below (Below.drew (Below.refl _ _)))
          have HT := Lib.hid (HT.out.below (Below.drew (Below.refl _ _)))
          have HR := Lib.hid (HR.out.below (Below.drew (Below.refl _ _)))
          have HB := Lib.hid (Below.drew HB.out)
          rw [hw31] at HS HT HR HB
          clear hw31
          obtain ⟨⟨qS0, qS1, qS2⟩, ⟨fS0, fS1, fS2⟩, zS⟩ := HS.out
          obtain ⟨⟨qT0, qT1, qT2⟩, ⟨fT0, fT1, fT2⟩, zT⟩ := HT.out
          obtain ⟨⟨qR0, qR1, qR2⟩, ⟨fR0, fR1, fR2⟩, zR⟩ := HR.out
          go_wp2_with fail
          clear qS0 fS0 qS1 fS1 qS2 fS2 zS qT0 fT0 qT1 fT1 qT2 fT2 zT qR0 fR0 qR1 fR1 qR2 fR2 zR
          have hset := HS.out.set1 (0 + m3 * a)
          rw [hE] at hset
          have hT2 := (HT.out.far ⟨GS, 1, none⟩ (.int .i64 (0 + m3 * a)) (by show GT ≠ GS; exact ne_T_S))
          have hR2 := (HR.out.far ⟨GS, 1, none⟩ (.int .i64 (0 + m3 * a)) (by show GR ≠ GS; exact ne_R_S))
          have hB2 := Below.setCell HB.out (p := ⟨GS, 1, none⟩) le_S (.int .i64 (0 + m3 * a))
          rw [hE] at hT2 hR2 hB2
          (try rw [hE])
          go_roundw
          case rel => exact ⟨0 + 1, by first | rfl | go_num, by omega, hset, hT2, hR2, hB2⟩
          case measure => simp only [intOf]; omega
        · rw [show ((1 : Nat) : Int) = 1 from rfl]
          have HS : Hid (Bk3 wr GS s03 s11 0) := HS0.out
          clear HS0
          have bm := HBM.out 4 (by omega)
          have bt := HBT.out
          simp only [nine] at bm
          have pp0 := Int.mul_nonneg bm.1 (show 0 ≤ b by omega)
          have pp1 : m4 * b ≤ 1000000 * 1000000 := Int.mul_le_mul bm.2 (show b ≤ 1000000 by omega) (by omega) (by omega)
          have bs := HBS.out
          have ws1 : IntKind.i64.wrap (m4 * b) = m4 * b := by rw [IntKind.wrap_i64]; omega
          have ws2 : IntKind.i64.wrap (s11 + m4 * b) = s11 + m4 * b := by rw [IntKind.wrap_i64]; omega
          have hE := e11.out
          obtain ⟨⟨qS0, qS1, qS2⟩, ⟨fS0, fS1, fS2⟩, zS⟩ := HS.out
          obtain ⟨⟨qT0, qT1, qT2⟩, ⟨fT0, fT1, fT2⟩, zT⟩ := HT.out
          obtain ⟨⟨qR0, qR1, qR2⟩, ⟨fR0, fR1, fR2⟩, zR⟩ := HR.out
          go_upto_region 12 with fail
          go_still_tail 10, (by kernel_rfl)
          change wpList _ _ _ _ _ (World.drew _)
          obtain ⟨w31, hw31⟩ : ∃ wx, wr.drew = wx := ⟨_, rfl⟩
          rw [hw31]
          clear qS0 fS0 qS1 fS1 qS2 fS2 zS qT0 fT0 qT1 fT1 qT2 fT2 zT qR0 fR0 qR1 fR1 qR2 fR2 zR
          have HS := Lib.hid (HS.out.below (Below.drew (Below.refl _ _)))
          have HT := Lib.hid (HT.out.below (Below.drew (Below.refl _ _)))
          have HR := Lib.hid (HR.out.below (Below.drew (Below.refl _ _)))
          have HB := Lib.hid (Below.drew HB.out)
          rw [hw31] at HS HT HR HB
          clear hw31
          obtain ⟨⟨qS0, qS1, qS2⟩, ⟨fS0, fS1, fS2⟩, zS⟩ := HS.out
          obtain ⟨⟨qT0, qT1, qT2⟩, ⟨fT0, fT1, fT2⟩, zT⟩ := HT.out
          obtain ⟨⟨qR0, qR1, qR2⟩, ⟨fR0, fR1, fR2⟩, zR⟩ := HR.out
          go_wp2_with fail
          clear qS0 fS0 qS1 fS1 qS2 fS2 zS qT0 fT0 qT1 fT1 qT2 fT2 zT qR0 fR0 qR1 fR1 qR2 fR2 zR
          have hset := HS.out.set1 (s11 + m4 * b)
          rw [hE] at hset
          have hT2 := (HT.out.far ⟨GS, 1, none⟩ (.int .i64 (s11 + m4 * b)) (by show GT ≠ GS; exact ne_T_S))
          have hR2 := (HR.out.far ⟨GS, 1, none⟩ (.int .i64 (s11 + m4 * b)) (by show GR ≠ GS; exact ne_R_S))
          have hB2 := Below.setCell HB.out (p := ⟨GS, 1, none⟩) le_S (.int .i64 (s11 + m4 * b))
          rw [hE] at hT2 hR2 hB2
          (try rw [hE])
          go_roundw
          case rel => exact ⟨1 + 1, by first | rfl | go_num, by omega, hset, hT2, hR2, hB2⟩
          case measure => simp only [intOf]; omega
        · rw [show ((2 : Nat) : Int) = 2 from rfl]
          have HS : Hid (Bk3 wr GS s03 s12 0) := HS0.out
          clear HS0
          have bm := HBM.out 5 (by omega)
          have bt := HBT.out
          simp only [nine] at bm
          have pp0 := Int.mul_nonneg bm.1 (show 0 ≤ c by omega)
          have pp1 : m5 * c ≤ 1000000 * 1000000 := Int.mul_le_mul bm.2 (show c ≤ 1000000 by omega) (by omega) (by omega)
          have bs := HBS.out
          have ws1 : IntKind.i64.wrap (m5 * c) = m5 * c := by rw [IntKind.wrap_i64]; omega
          have ws2 : IntKind.i64.wrap (s12 + m5 * c) = s12 + m5 * c := by rw [IntKind.wrap_i64]; omega
          have hE := e12.out
          obtain ⟨⟨qS0, qS1, qS2⟩, ⟨fS0, fS1, fS2⟩, zS⟩ := HS.out
          obtain ⟨⟨qT0, qT1, qT2⟩, ⟨fT0, fT1, fT2⟩, zT⟩ := HT.out
          obtain ⟨⟨qR0, qR1, qR2⟩, ⟨fR0, fR1, fR2⟩, zR⟩ := HR.out
          go_upto_region 12 with fail
          go_still_tail 10, (by kernel_rfl)
          change wpList _ _ _ _ _ (World.drew _)
          obtain ⟨w31, hw31⟩ : ∃ wx, wr.drew = wx := ⟨_, rfl⟩
          rw [hw31]
          clear qS0 fS0 qS1 fS1 qS2 fS2 zS qT0 fT0 qT1 fT1 qT2 fT2 zT qR0 fR0 qR1 fR1 qR2 fR2 zR
          have HS := Lib.hid (HS.out.below (Below.drew (Below.refl _ _)))
          have HT := Lib.hid (HT.out.below (Below.drew (Below.refl _ _)))
          have HR := Lib.hid (HR.out.below (Below.drew (Below.refl _ _)))
          have HB := Lib.hid (Below.drew HB.out)
          rw [hw31] at HS HT HR HB
          clear hw31
          obtain ⟨⟨qS0, qS1, qS2⟩, ⟨fS0, fS1, fS2⟩, zS⟩ := HS.out
          obtain ⟨⟨qT0, qT1, qT2⟩, ⟨fT0, fT1, fT2⟩, zT⟩ := HT.out
          obtain ⟨⟨qR0, qR1, qR2⟩, ⟨fR0, fR1, fR2⟩, zR⟩ := HR.out
          go_wp2_with fail
          clear qS0 fS0 qS1 fS1 qS2 fS2 zS qT0 fT0 qT1 fT1 qT2 fT2 zT qR0 fR0 qR1 fR1 qR2 fR2 zR
          have hset := HS.out.set1 (s12 + m5 * c)
          rw [hE] at hset
          have hT2 := (HT.out.far ⟨GS, 1, none⟩ (.int .i64 (s12 + m5 * c)) (by show GT ≠ GS; exact ne_T_S))
          have hR2 := (HR.out.far ⟨GS, 1, none⟩ (.int .i64 (s12 + m5 * c)) (by show GR ≠ GS; exact ne_R_S))
          have hB2 := Below.setCell HB.out (p := ⟨GS, 1, none⟩) le_S (.int .i64 (s12 + m5 * c))
          rw [hE] at hT2 hR2 hB2
          (try rw [hE])
          go_roundw
          case rel => exact ⟨2 + 1, by first | rfl | go_num, by omega, hset, hT2, hR2, hB2⟩
          case measure => simp only [intOf]; omega
        · rw [show ((3 : Nat) : Int) = 3 from rfl]
          have HS : Hid (Bk3 wr GS s03 s13 0) := HS0.out
          clear HS0
          go_wp2_with fail
          go_roundw
          case rel => exact ⟨1 + 1, by first | rfl | go_num, by omega, HS.out, HT.out, HR.out, HB.out⟩
          case measure => simp only [intOf]; omega
    · rw [show ((2 : Nat) : Int) = 2 from rfl]
      have HS : Hid (Bk3 wr GS s03 s13 0) := HS0.out
      clear HS0
      have hne := HNE.out
      obtain ⟨ne_S_T, ne_T_S, ne_S_R, ne_R_S, le_S⟩ := hne
      obtain ⟨⟨qS0, qS1, qS2⟩, ⟨fS0, fS1, fS2⟩, zS⟩ := HS.out
      obtain ⟨⟨qT0, qT1, qT2⟩, ⟨fT0, fT1, fT2⟩, zT⟩ := HT.out
      obtain ⟨⟨qR0, qR1, qR2⟩, ⟨fR0, fR1, fR2⟩, zR⟩ := HR.out
      go_upto_region 9 with fail
      obtain ⟨GW, hGW⟩ : ∃ g, wr.heap.size = g := ⟨_, rfl⟩
      obtain ⟨w21, hw21⟩ : ∃ wx, wx = wr.alloc (.cells #[.int .i64 m6, .int .i64 m7, .int .i64 m8] 22) := ⟨_, rfl⟩
      rw [← hw21, hGW]
      have HW : Hid (Bk3 w21 GW m6 m7 m8) := by rw [hw21, ← hGW]; exact bk3_new wr m6 m7 m8 _
      have le_W : w.heap.size ≤ GW := by rw [← hGW]; exact HB.out.size
      have ne_W_S : GW ≠ GS := by have := HS.out.2.2; omega
      have ne_S_W : GS ≠ GW := Ne.symm ne_W_S
      have ne_W_T : GW ≠ GT := by have := HT.out.2.2; omega
      have ne_T_W : GT ≠ GW := Ne.symm ne_W_T
      have ne_W_R : GW ≠ GR := by have := HR.out.2.2; omega
      have ne_R_W : GR ≠ GW := Ne.symm ne_W_R
      clear qS0 fS0 qS1 fS1 qS2 fS2 zS qT0 fT0 qT1 fT1 qT2 fT2 zT qR0 fR0 qR1 fR1 qR2 fR2 zR
      have HS := Lib.hid (HS.out.below ((Below.refl _ _).alloc (Nat.le_refl _) (.cells #[.int .i64 m6, .int .i64 m7, .int .i64 m8] 22)))
      have HT := Lib.hid (HT.out.below ((Below.refl _ _).alloc (Nat.le_refl _) (.cells #[.int .i64 m6, .int .i64 m7, .int .i64 m8] 22)))
      have HR := Lib.hid (HR.out.below ((Below.refl _ _).alloc (Nat.le_refl _) (.cells #[.int .i64 m6, .int .i64 m7, .int .i64 m8] 22)))
      have HB := Lib.hid (Below.alloc HB.out HB.out.size (.cells #[.int .i64 m6, .int .i64 m7, .int .i64 m8] 22))
      rw [← hw21] at HS HT HR HB
      clear hw21 hGW
      obtain ⟨⟨qS0, qS1, qS2⟩, ⟨fS0, fS1, fS2⟩, zS⟩ := HS.out
      obtain ⟨⟨qT0, qT1, qT2⟩, ⟨fT0, fT1, fT2⟩, zT⟩ := HT.out
      obtain ⟨⟨qR0, qR1, qR2⟩, ⟨fR0, fR1, fR2⟩, zR⟩ := HR.out
      obtain ⟨⟨qW0, qW1, qW2⟩, ⟨fW0, fW1, fW2⟩, zW⟩ := HW.out
      go_wp2_with fail
      clear qS0 fS0 qS1 fS1 qS2 fS2 zS qT0 fT0 qT1 fT1 qT2 fT2 zT qR0 fR0 qR1 fR1 qR2 fR2 zR qW0 fW0 qW1 fW1 qW2 fW2 zW
      clear HW
      go_loopw [25] (fun y wr => ∃ j : Nat, y = .int .i64 (j : Int) ∧ j ≤ 3 ∧ SqB2 wr GS j s01 s02 s03 s11 s12 s13 s21 s22 s23 ∧ Bk3 wr GT a b c ∧ Bk3 wr GR 0 0 0 ∧ Below w.heap.size w wr) (fun y _ => 3 - (intOf y).toNat)
      case atStart => exact ⟨0, rfl, by omega, HS.out, HT.out, HR.out, HB.out⟩
      case round =>
        obtain ⟨j, rfl, hj, hS, hT, hR, hbel⟩ := hrel
        clear HS HT HR HB
        have HS0 := Lib.hid hS
        have HT := Lib.hid hT
        have HR := Lib.hid hR
        have HB := Lib.hid hbel
        clear hS hT hR hbel
        rcases (show j = 0 ∨ j = 1 ∨ j = 2 ∨ j = 3 by omega) with rfl | rfl | rfl | rfl
        · rw [show ((0 : Nat) : Int) = 0 from rfl]
          have HS : Hid (Bk3 wr GS s03 s13 0) := HS0.out
          clear HS0
          have bm := HBM.out 6 (by omega)
          have bt := HBT.out
          simp only [nine] at bm
          have pp0 := Int.mul_nonneg bm.1 (show 0 ≤ a by omega)
          have pp1 : m6 * a ≤ 1000000 * 1000000 := Int.mul_le_mul bm.2 (show a ≤ 1000000 by omega) (by omega) (by omega)
          have bs := HBS.out
          have ws1 : IntKind.i64.wrap (m6 * a) = m6 * a := by rw [IntKind.wrap_i64]; omega
          have ws2 : IntKind.i64.wrap (0 + m6 * a) = 0 + m6 * a := by rw [IntKind.wrap_i64]; omega
          have hE := e20.out
          obtain ⟨⟨qS0, qS1, qS2⟩, ⟨fS0, fS1, fS2⟩, zS⟩ := HS.out
          obtain ⟨⟨qT0, qT1, qT2⟩, ⟨fT0, fT1, fT2⟩, zT⟩ := HT.out
          obtain ⟨⟨qR0, qR1, qR2⟩, ⟨fR0, fR1, fR2⟩, zR⟩ := HR.out
          go_upto_region 12 with fail
          go_still_tail 10, (by kernel_rfl)
          change wpList _ _ _ _ _ (World.drew _)
          obtain ⟨w31, hw31⟩ : ∃ wx, wr.drew = wx := ⟨_, rfl⟩
          rw [hw31]
          clear qS0 fS0 qS1 fS1 qS2 fS2 zS qT0 fT0 qT1 fT1 qT2 fT2 zT qR0 fR0 qR1 fR1 qR2 fR2 zR
          have HS := Lib.hid (HS.out.below (Below.drew (Below.refl _ _)))
          have HT := Lib.hid (HT.out.below (Below.drew (Below.refl _ _)))
          have HR := Lib.hid (HR.out.below (Below.drew (Below.refl _ _)))
          have HB := Lib.hid (Below.drew HB.out)
          rw [hw31] at HS HT HR HB
          clear hw31
          obtain ⟨⟨qS0, qS1, qS2⟩, ⟨fS0, fS1, fS2⟩, zS⟩ := HS.out
          obtain ⟨⟨qT0, qT1, qT2⟩, ⟨fT0, fT1, fT2⟩, zT⟩ := HT.out
          obtain ⟨⟨qR0, qR1, qR2⟩, ⟨fR0, fR1, fR2⟩, zR⟩ := HR.out
          go_wp2_with fail
          clear qS0 fS0 qS1 fS1 qS2 fS2 zS qT0 fT0 qT1 fT1 qT2 fT2 zT qR0 fR0 qR1 fR1 qR2 fR2 zR
          have hset := HS.out.set2 (0 + m6 * a)
          rw [hE] at hset
          have hT2 := (HT.out.far ⟨GS, 2, none⟩ (.int .i64 (0 + m6 * a)) (by show GT ≠ GS; exact ne_T_S))
          have hR2 := (HR.out.far ⟨GS, 2, none⟩ (.int .i64 (0 + m6 * a)) (by show GR ≠ GS; exact ne_R_S))
          have hB2 := Below.setCell HB.out (p := ⟨GS, 2, none⟩) le_S (.int .i64 (0 + m6 * a))
          rw [hE] at hT2 hR2 hB2
          (try rw [hE])
          go_roundw
          case rel => exact ⟨0 + 1, by first | rfl | go_num, by omega, hset, hT2, hR2, hB2⟩
          case measure => simp only [intOf]; omega
        · rw [show ((1 : Nat) : Int) = 1 from rfl]
          have HS : Hid (Bk3 wr GS s03 s13 s21) := HS0.out
          clear HS0
          have bm := HBM.out 7 (by omega)
          have bt := HBT.out
          simp only [nine] at bm
          have pp0 := Int.mul_nonneg bm.1 (show 0 ≤ b by omega)
          have pp1 : m7 * b ≤ 1000000 * 1000000 := Int.mul_le_mul bm.2 (show b ≤ 1000000 by omega) (by omega) (by omega)
          have bs := HBS.out
          have ws1 : IntKind.i64.wrap (m7 * b) = m7 * b := by rw [IntKind.wrap_i64]; omega
          have ws2 : IntKind.i64.wrap (s21 + m7 * b) = s21 + m7 * b := by rw [IntKind.wrap_i64]; omega
          have hE := e21.out
          obtain ⟨⟨qS0, qS1, qS2⟩, ⟨fS0, fS1, fS2⟩, zS⟩ := HS.out
          obtain ⟨⟨qT0, qT1, qT2⟩, ⟨fT0, fT1, fT2⟩, zT⟩ := HT.out
          obtain ⟨⟨qR0, qR1, qR2⟩, ⟨fR0, fR1, fR2⟩, zR⟩ := HR.out
          go_upto_region 12 with fail
          go_still_tail 10, (by kernel_rfl)
          change wpList _ _ _ _ _ (World.drew _)
          obtain ⟨w31, hw31⟩ : ∃ wx, wr.drew = wx := ⟨_, rfl⟩
          rw [hw31]
          clear qS0 fS0 qS1 fS1 qS2 fS2 zS qT0 fT0 qT1 fT1 qT2 fT2 zT qR0 fR0 qR1 fR1 qR2 fR2 zR
          have HS := Lib.hid (HS.out.below (Below.drew (Below.refl _ _)))
          have HT := Lib.hid (HT.out.below (Below.drew (Below.refl _ _)))
          have HR := Lib.hid (HR.out.below (Below.drew (Below.refl _ _)))
          have HB := Lib.hid (Below.drew HB.out)
          rw [hw31] at HS HT HR HB
          clear hw31
          obtain ⟨⟨qS0, qS1, qS2⟩, ⟨fS0, fS1, fS2⟩, zS⟩ := HS.out
          obtain ⟨⟨qT0, qT1, qT2⟩, ⟨fT0, fT1, fT2⟩, zT⟩ := HT.out
          obtain ⟨⟨qR0, qR1, qR2⟩, ⟨fR0, fR1, fR2⟩, zR⟩ := HR.out
          go_wp2_with fail
          clear qS0 fS0 qS1 fS1 qS2 fS2 zS qT0 fT0 qT1 fT1 qT2 fT2 zT qR0 fR0 qR1 fR1 qR2 fR2 zR
          have hset := HS.out.set2 (s21 + m7 * b)
          rw [hE] at hset
          have hT2 := (HT.out.far ⟨GS, 2, none⟩ (.int .i64 (s21 + m7 * b)) (by show GT ≠ GS; exact ne_T_S))
          have hR2 := (HR.out.far ⟨GS, 2, none⟩ (.int .i64 (s21 + m7 * b)) (by show GR ≠ GS; exact ne_R_S))
          have hB2 := Below.setCell HB.out (p := ⟨GS, 2, none⟩) le_S (.int .i64 (s21 + m7 * b))
          rw [hE] at hT2 hR2 hB2
          (try rw [hE])
          go_roundw
          case rel => exact ⟨1 + 1, by first | rfl | go_num, by omega, hset, hT2, hR2, hB2⟩
          case measure => simp only [intOf]; omega
        · rw [show ((2 : Nat) : Int) = 2 from rfl]
          have HS : Hid (Bk3 wr GS s03 s13 s22) := HS0.out
          clear HS0
          have bm := HBM.out 8 (by omega)
          have bt := HBT.out
          simp only [nine] at bm
          have pp0 := Int.mul_nonneg bm.1 (show 0 ≤ c by omega)
          have pp1 : m8 * c ≤ 1000000 * 1000000 := Int.mul_le_mul bm.2 (show c ≤ 1000000 by omega) (by omega) (by omega)
          have bs := HBS.out
          have ws1 : IntKind.i64.wrap (m8 * c) = m8 * c := by rw [IntKind.wrap_i64]; omega
          have ws2 : IntKind.i64.wrap (s22 + m8 * c) = s22 + m8 * c := by rw [IntKind.wrap_i64]; omega
          have hE := e22.out
          obtain ⟨⟨qS0, qS1, qS2⟩, ⟨fS0, fS1, fS2⟩, zS⟩ := HS.out
          obtain ⟨⟨qT0, qT1, qT2⟩, ⟨fT0, fT1, fT2⟩, zT⟩ := HT.out
          obtain ⟨⟨qR0, qR1, qR2⟩, ⟨fR0, fR1, fR2⟩, zR⟩ := HR.out
          go_upto_region 12 with fail
          go_still_tail 10, (by kernel_rfl)
          change wpList _ _ _ _ _ (World.drew _)
          obtain ⟨w31, hw31⟩ : ∃ wx, wr.drew = wx := ⟨_, rfl⟩
          rw [hw31]
          clear qS0 fS0 qS1 fS1 qS2 fS2 zS qT0 fT0 qT1 fT1 qT2 fT2 zT qR0 fR0 qR1 fR1 qR2 fR2 zR
          have HS := Lib.hid (HS.out.below (Below.drew (Below.refl _ _)))
          have HT := Lib.hid (HT.out.below (Below.drew (Below.refl _ _)))
          have HR := Lib.hid (HR.out.below (Below.drew (Below.refl _ _)))
          have HB := Lib.hid (Below.drew HB.out)
          rw [hw31] at HS HT HR HB
          clear hw31
          obtain ⟨⟨qS0, qS1, qS2⟩, ⟨fS0, fS1, fS2⟩, zS⟩ := HS.out
          obtain ⟨⟨qT0, qT1, qT2⟩, ⟨fT0, fT1, fT2⟩, zT⟩ := HT.out
          obtain ⟨⟨qR0, qR1, qR2⟩, ⟨fR0, fR1, fR2⟩, zR⟩ := HR.out
          go_wp2_with fail
          clear qS0 fS0 qS1 fS1 qS2 fS2 zS qT0 fT0 qT1 fT1 qT2 fT2 zT qR0 fR0 qR1 fR1 qR2 fR2 zR
          have hset := HS.out.set2 (s22 + m8 * c)
          rw [hE] at hset
          have hT2 := (HT.out.far ⟨GS, 2, none⟩ (.int .i64 (s22 + m8 * c)) (by show GT ≠ GS; exact ne_T_S))
          have hR2 := (HR.out.far ⟨GS, 2, none⟩ (.int .i64 (s22 + m8 * c)) (by show GR ≠ GS; exact ne_R_S))
          have hB2 := Below.setCell HB.out (p := ⟨GS, 2, none⟩) le_S (.int .i64 (s22 + m8 * c))
          rw [hE] at hT2 hR2 hB2
          (try rw [hE])
          go_roundw
          case rel => exact ⟨2 + 1, by first | rfl | go_num, by omega, hset, hT2, hR2, hB2⟩
          case measure => simp only [intOf]; omega
        · rw [show ((3 : Nat) : Int) = 3 from rfl]
          have HS : Hid (Bk3 wr GS s03 s13 s23) := HS0.out
          clear HS0
          go_wp2_with fail
          go_roundw
          case rel => exact ⟨2 + 1, by first | rfl | go_num, by omega, HS.out, HT.out, HR.out, HB.out⟩
          case measure => simp only [intOf]; omega
    · rw [show ((3 : Nat) : Int) = 3 from rfl]
      have HS : Hid (Bk3 wr GS s03 s13 s23) := HS0.out
      clear HS0 e00 e01 e02 e10 e11 e12 e20 e21 e22 HBM HBT
      have heq := eq_tr s03 s13 s23 0 0 0
      cases hz : ((s03 == 0 && s13 == 0) && s23 == 0)
      · rw [hz] at heq
        have HLT := Lib.hid (fun w => limited_any s03 s13 s23 w)
        have HE : Hid (E = .tuple #[.agg #[.int .i64 (lmV s03 s13 s23 s03), .int .i64 (lmV s03 s13 s23 s13), .int .i64 (lmV s03 s13 s23 s23)], .int .i64 (lmK s03 s13 s23)]) := by
          have e1 : asK s03 s13 s23 = lmK s03 s13 s23 := by unfold asK asZ lmK; rw [hz]; rfl
          show _ = _
          rw [HRES.out]
          unfold asV lmV
          rw [e1]
          unfold lmK
          cases (wh s03 && wh s13 && wh s23) <;> rfl
        generalize lmV s03 s13 s23 s03 = X at *
        generalize lmV s03 s13 s23 s13 = Y at *
        generalize lmV s03 s13 s23 s23 = Z at *
        generalize lmK s03 s13 s23 = C at *
        clear hz
        obtain ⟨⟨qS0, qS1, qS2⟩, ⟨fS0, fS1, fS2⟩, zS⟩ := HS.out
        obtain ⟨⟨qR0, qR1, qR2⟩, ⟨fR0, fR1, fR2⟩, zR⟩ := HR.out
        go_wp2_with fail
        go_at_call 75
        refine (HLT.out _).mono ?_
        rintro e w61 ⟨rfl, hb⟩
        clear qS0 fS0 qS1 fS1 qS2 fS2 zS qR0 fR0 qR1 fR1 qR2 fR2 zR
        have HS := Lib.hid (HS.out.below hb)
        have HR := Lib.hid (HR.out.below hb)
        have HB := Lib.hid (below_after hb HB.out)
        clear hb
        obtain ⟨⟨qS0, qS1, qS2⟩, ⟨fS0, fS1, fS2⟩, zS⟩ := HS.out
        obtain ⟨⟨qR0, qR1, qR2⟩, ⟨fR0, fR1, fR2⟩, zR⟩ := HR.out
        go_wp2_with fail
        refine bodyPost_ret (v := .tuple #[.agg #[.int .i64 X, .int .i64 Y, .int .i64 Z], .int .i64 C]) (by simp (maxDischargeDepth := 8) [results, Try.results40, go_sem, *]) rfl ?_
        have hb := HB.out
        exact ⟨by rw [HE.out], by (repeat' (first | (with_reducible exact Below.refl _ _) | (with_reducible refine Below.alloc ?_ ?_ _) | (with_reducible refine Below.setCell ?_ ?_ _) | (with_reducible refine Below.drew ?_) | (with_reducible refine below_drewN ?_ _) | (with_reducible assumption) | (with_reducible refine below_after (by with_reducible assumption) ?_) | go_size))⟩
      · rw [hz] at heq
        have HE : Hid (E = .tuple #[.agg #[.int .i64 0, .int .i64 0, .int .i64 0], .int .i64 2]) := by
          have e1 : asK s03 s13 s23 = 2 := by unfold asK asZ; rw [hz]; rfl
          show _ = _
          rw [HRES.out]
          unfold asV
          rw [e1]
          rfl
        clear hz
        obtain ⟨⟨qS0, qS1, qS2⟩, ⟨fS0, fS1, fS2⟩, zS⟩ := HS.out
        obtain ⟨⟨qR0, qR1, qR2⟩, ⟨fR0, fR1, fR2⟩, zR⟩ := HR.out
        go_wp2_with fail
        refine bodyPost_ret (v := .tuple #[.agg #[.int .i64 0, .int .i64 0, .int .i64 0], .int .i64 2]) (by simp (maxDischargeDepth := 8) [results, Try.results40, go_sem, *]) rfl ?_
        have hb := HB.out
        exact ⟨by rw [HE.out], by (repeat' (first | (with_reducible exact Below.refl _ _) | (with_reducible refine Below.alloc ?_ ?_ _) | (with_reducible refine Below.setCell ?_ ?_ _) | (with_reducible refine Below.drew ?_) | (with_reducible refine below_drewN ?_ _) | (with_reducible assumption) | (with_reducible refine below_after (by with_reducible assumption) ?_) | go_size))⟩
theorem impl_ApplySquare_any (m0 m1 m2 m3 m4 m5 m6 m7 m8 a b c : Int) (w : World) : Calls Try.prog 40 #[.agg #[.int .i64 m0, .int .i64 m1, .int .i64 m2, .int .i64 m3, .int .i64 m4, .int .i64 m5, .int .i64 m6, .int .i64 m7, .int .i64 m8], .agg #[.int .i64 a, .int .i64 b, .int .i64 c]] w fun e w' => e = .returned (.tuple #[.agg #[.int .i64 (apV m0 m1 m2 m3 m4 m5 m6 m7 m8 a b c (asS m0 m1 m2 a b c)), .int .i64 (apV m0 m1 m2 m3 m4 m5 m6 m7 m8 a b c (asS m3 m4 m5 a b c)), .int .i64 (apV m0 m1 m2 m3 m4 m5 m6 m7 m8 a b c (asS m6 m7 m8 a b c))], .int .i64 (apK m0 m1 m2 m3 m4 m5 m6 m7 m8 a b c)]) ∧ Below w.heap.size w w' := by
  have HIST := Lib.hid (fun w => impl_IsTriple_any a b c w)
  cases ht : isTr a b c
  · have e1 : apK m0 m1 m2 m3 m4 m5 m6 m7 m8 a b c = 1 := by unfold apK; rw [if_neg (by rw [ht]; decide)]
    have e2 : ∀ x, apV m0 m1 m2 m3 m4 m5 m6 m7 m8 a b c x = 0 := fun x => by unfold apV; rw [if_neg (by rw [e1]; decide)]
    rw [e1, e2, e2, e2]
    rw [ht] at HIST
    clear ht e1 e2
    obtain ⟨GM, hG⟩ : ∃ G, w.heap.size = G := ⟨_, rfl⟩
    have HG := Lib.hid hG
    go_enter Try.func40, Try.ntmps40
    go_upto_region 1 with fail
    obtain ⟨w0, hw0⟩ : ∃ w0, w0 = (((w.alloc (.cells #[.int .i64 m0, .int .i64 m1, .int .i64 m2, .int .i64 m3, .int .i64 m4, .int .i64 m5, .int .i64 m6, .int .i64 m7, .int .i64 m8] 43)).alloc (.cells #[.int .i64 a, .int .i64 b, .int .i64 c] 24)).alloc (.cells #[.int .i64 0, .int .i64 0, .int .i64 0] 24)) := ⟨_, rfl⟩
    rw [← hw0]
    have HM : Hid (Bk9 w0 GM m0 m1 m2 m3 m4 m5 m6 m7 m8) := by
      have h := (bk9_new w m0 m1 m2 m3 m4 m5 m6 m7 m8 43).below (W' := (((w.alloc (.cells #[.int .i64 m0, .int .i64 m1, .int .i64 m2, .int .i64 m3, .int .i64 m4, .int .i64 m5, .int .i64 m6, .int .i64 m7, .int .i64 m8] 43)).alloc (.cells #[.int .i64 a, .int .i64 b, .int .i64 c] 24)).alloc (.cells #[.int .i64 0, .int .i64 0, .int .i64 0] 24))) (by (repeat' (first | (with_reducible exact Below.refl _ _) | (with_reducible refine Below.alloc ?_ ?_ _) | (with_reducible refine Below.setCell ?_ ?_ _) | (with_reducible refine Below.drew ?_) | (with_reducible refine below_drewN ?_ _) | (with_reducible assumption) | (with_reducible refine below_after (by with_reducible assumption) ?_) | go_size)))
      (try simp only [World.size_alloc] at h)
      rw [hG] at h
      rw [hw0]; exact h
    have HT : Hid (Bk3 w0 (GM + 1) a b c) := by
      have h := (bk3_new (w.alloc (.cells #[.int .i64 m0, .int .i64 m1, .int .i64 m2, .int .i64 m3, .int .i64 m4, .int .i64 m5, .int .i64 m6, .int .i64 m7, .int .i64 m8] 43)) a b c 24).below (W' := (((w.alloc (.cells #[.int .i64 m0, .int .i64 m1, .int .i64 m2, .int .i64 m3, .int .i64 m4, .int .i64 m5, .int .i64 m6, .int .i64 m7, .int .i64 m8] 43)).alloc (.cells #[.int .i64 a, .int .i64 b, .int .i64 c] 24)).alloc (.cells #[.int .i64 0, .int .i64 0, .int .i64 0] 24))) (by (repeat' (first | (with_reducible exact Below.refl _ _) | (with_reducible refine Below.alloc ?_ ?_ _) | (with_reducible refine Below.setCell ?_ ?_ _) | (with_reducible refine Below.drew ?_) | (with_reducible refine below_drewN ?_ _) | (with_reducible assumption) | (with_reducible refine below_after (by with_reducible assumption) ?_) | go_size)))
      (try simp only [World.size_alloc] at h)
      rw [hG] at h
      rw [hw0]; exact h
    have HR : Hid (Bk3 w0 (GM + 1 + 1) 0 0 0) := by
      have h := (bk3_new ((w.alloc (.cells #[.int .i64 m0, .int .i64 m1, .int .i64 m2, .int .i64 m3, .int .i64 m4, .int .i64 m5, .int .i64 m6, .int .i64 m7, .int .i64 m8] 43)).alloc (.cells #[.int .i64 a, .int .i64 b, .int .i64 c] 24)) 0 0 0 24).below (W' := (((w.alloc (.cells #[.int .i64 m0, .int .i64 m1, .int .i64 m2, .int .i64 m3, .int .i64 m4, .int .i64 m5, .int .i64 m6, .int .i64 m7, .int .i64 m8] 43)).alloc (.cells #[.int .i64 a, .int .i64 b, .int .i64 c] 24)).alloc (.cells #[.int .i64 0, .int .i64 0, .int .i64 0] 24))) (by (repeat' (first | (with_reducible exact Below.refl _ _) | (with_reducible refine Below.alloc ?_ ?_ _) | (with_reducible refine Below.setCell ?_ ?_ _) | (with_reducible refine Below.drew ?_) | (with_reducible refine below_drewN ?_ _) | (with_reducible assumption) | (with_reducible refine below_after (by with_reducible assumption) ?_) | go_size)))
      (try simp only [World.size_alloc] at h)
      rw [hG] at h
      rw [hw0]; exact h
    have HB : Hid (Below w.heap.size w w0) := by show Below w.heap.size w w0; rw [hw0]; (repeat' (first | (with_reducible exact Below.refl _ _) | (with_reducible refine Below.alloc ?_ ?_ _) | (with_reducible refine Below.setCell ?_ ?_ _) | (with_reducible refine Below.drew ?_) | (with_reducible refine below_drewN ?_ _) | (with_reducible assumption) | (with_reducible refine below_after (by with_reducible assumption) ?_) | go_size))
    clear hw0
    obtain ⟨GR, hGR⟩ : ∃ g, GM + 1 + 1 = g := ⟨_, rfl⟩
    rw [hGR] at HR ⊢
    obtain ⟨GT, hGT⟩ : ∃ g, GM + 1 = g := ⟨_, rfl⟩
    rw [hGT] at HT ⊢
    have le_M : w.heap.size ≤ GM := by omega
    have le_T : w.heap.size ≤ GT := by omega
    have ne_T_M : GT ≠ GM := by omega
    have ne_M_T : GM ≠ GT := by omega
    have le_R : w.heap.size ≤ GR := by omega
    have ne_R_M : GR ≠ GM := by omega
    have ne_M_R : GM ≠ GR := by omega
    have ne_R_T : GR ≠ GT := by omega
    have ne_T_R : GT ≠ GR := by omega
    clear hGT hGR
    obtain ⟨⟨qM0, qM1, qM2, qM3, qM4, qM5, qM6, qM7, qM8⟩, ⟨fM0, fM1, fM2, fM3, fM4, fM5, fM6, fM7, fM8⟩, zM⟩ := HM.out
    obtain ⟨⟨qT0, qT1, qT2⟩, ⟨fT0, fT1, fT2⟩, zT⟩ := HT.out
    obtain ⟨⟨qR0, qR1, qR2⟩, ⟨fR0, fR1, fR2⟩, zR⟩ := HR.out
    go_wp2_with fail
    go_at_call 18
    refine (HIST.out _).mono ?_
    rintro e w1 ⟨rfl, hb⟩
    clear qM0 fM0 qM1 fM1 qM2 fM2 qM3 fM3 qM4 fM4 qM5 fM5 qM6 fM6 qM7 fM7 qM8 fM8 zM qT0 fT0 qT1 fT1 qT2 fT2 zT qR0 fR0 qR1 fR1 qR2 fR2 zR
    have HM := Lib.hid (HM.out.below hb)
    have HT := Lib.hid (HT.out.below hb)
    have HR := Lib.hid (HR.out.below hb)
    have HB := Lib.hid (below_after hb HB.out)
    clear hb
    obtain ⟨⟨qM0, qM1, qM2, qM3, qM4, qM5, qM6, qM7, qM8⟩, ⟨fM0, fM1, fM2, fM3, fM4, fM5, fM6, fM7, fM8⟩, zM⟩ := HM.out
    obtain ⟨⟨qT0, qT1, qT2⟩, ⟨fT0, fT1, fT2⟩, zT⟩ := HT.out
    obtain ⟨⟨qR0, qR1, qR2⟩, ⟨fR0, fR1, fR2⟩, zR⟩ := HR.out
    go_wp2_with fail
    refine bodyPost_ret (v := .tuple #[.agg #[.int .i64 0, .int .i64 0, .int .i64 0], .int .i64 1]) (by simp (maxDischargeDepth := 8) [results, Try.results40, go_sem, *]) rfl ?_
    have hb := HB.out
    exact ⟨rfl, by (repeat' (first | (with_reducible exact Below.refl _ _) | (with_reducible refine Below.alloc ?_ ?_ _) | (with_reducible refine Below.setCell ?_ ?_ _) | (with_reducible refine Below.drew ?_) | (with_reducible refine below_drewN ?_ _) | (with_reducible assumption) | (with_reducible refine below_after (by with_reducible assumption) ?_) | go_size))⟩
  · rw [ht] at HIST
    have HFIT := Lib.hid (fun w => isSquare_any m0 m1 m2 m3 m4 m5 m6 m7 m8 w)
    cases hf : fit9 (nine m0 m1 m2 m3 m4 m5 m6 m7 m8)
    · have e1 : apK m0 m1 m2 m3 m4 m5 m6 m7 m8 a b c = 2 := by unfold apK; rw [if_pos ht, if_neg (by rw [hf]; decide)]
      have e2 : ∀ x, apV m0 m1 m2 m3 m4 m5 m6 m7 m8 a b c x = 0 := fun x => by unfold apV; rw [if_neg (by rw [e1]; decide)]
      rw [e1, e2, e2, e2]
      rw [hf] at HFIT
      clear ht hf e1 e2
      obtain ⟨GM, hG⟩ : ∃ G, w.heap.size = G := ⟨_, rfl⟩
      have HG := Lib.hid hG
      go_enter Try.func40, Try.ntmps40
      go_upto_region 1 with fail
      obtain ⟨w0, hw0⟩ : ∃ w0, w0 = (((w.alloc (.cells #[.int .i64 m0, .int .i64 m1, .int .i64 m2, .int .i64 m3, .int .i64 m4, .int .i64 m5, .int .i64 m6, .int .i64 m7, .int .i64 m8] 43)).alloc (.cells #[.int .i64 a, .int .i64 b, .int .i64 c] 24)).alloc (.cells #[.int .i64 0, .int .i64 0, .int .i64 0] 24)) := ⟨_, rfl⟩
      rw [← hw0]
      have HM : Hid (Bk9 w0 GM m0 m1 m2 m3 m4 m5 m6 m7 m8) := by
        have h := (bk9_new w m0 m1 m2 m3 m4 m5 m6 m7 m8 43).below (W' := (((w.alloc (.cells #[.int .i64 m0, .int .i64 m1, .int .i64 m2, .int .i64 m3, .int .i64 m4, .int .i64 m5, .int .i64 m6, .int .i64 m7, .int .i64 m8] 43)).alloc (.cells #[.int .i64 a, .int .i64 b, .int .i64 c] 24)).alloc (.cells #[.int .i64 0, .int .i64 0, .int .i64 0] 24))) (by (repeat' (first | (with_reducible exact Below.refl _ _) | (with_reducible refine Below.alloc ?_ ?_ _) | (with_reducible refine Below.setCell ?_ ?_ _) | (with_reducible refine Below.drew ?_) | (with_reducible refine below_drewN ?_ _) | (with_reducible assumption) | (with_reducible refine below_after (by with_reducible assumption) ?_) | go_size)))
        (try simp only [World.size_alloc] at h)
        rw [hG] at h
        rw [hw0]; exact h
      have HT : Hid (Bk3 w0 (GM + 1) a b c) := by
        have h := (bk3_new (w.alloc (.cells #[.int .i64 m0, .int .i64 m1, .int .i64 m2, .int .i64 m3, .int .i64 m4, .int .i64 m5, .int .i64 m6, .int .i64 m7, .int .i64 m8] 43)) a b c 24).below (W' := (((w.alloc (.cells #[.int .i64 m0, .int .i64 m1, .int .i64 m2, .int .i64 m3, .int .i64 m4, .int .i64 m5, .int .i64 m6, .int .i64 m7, .int .i64 m8] 43)).alloc (.cells #[.int .i64 a, .int .i64 b, .int .i64 c] 24)).alloc (.cells #[.int .i64 0, .int .i64 0, .int .i64 0] 24))) (by (repeat' (first | (with_reducible exact Below.refl _ _) | (with_reducible refine Below.alloc ?_ ?_ _) | (with_reducible refine Below.setCell ?_ ?_ _) | (with_reducible refine Below.drew ?_) | (with_reducible refine below_drewN ?_ _) | (with_reducible assumption) | (with_reducible refine below_after (by with_reducible assumption) ?_) | go_size)))
        (try simp only [World.size_alloc] at h)
        rw [hG] at h
        rw [hw0]; exact h
      have HR : Hid (Bk3 w0 (GM + 1 + 1) 0 0 0) := by
        have h := (bk3_new ((w.alloc (.cells #[.int .i64 m0, .int .i64 m1, .int .i64 m2, .int .i64 m3, .int .i64 m4, .int .i64 m5, .int .i64 m6, .int .i64 m7, .int .i64 m8] 43)).alloc (.cells #[.int .i64 a, .int .i64 b, .int .i64 c] 24)) 0 0 0 24).below (W' := (((w.alloc (.cells #[.int .i64 m0, .int .i64 m1, .int .i64 m2, .int .i64 m3, .int .i64 m4, .int .i64 m5, .int .i64 m6, .int .i64 m7, .int .i64 m8] 43)).alloc (.cells #[.int .i64 a, .int .i64 b, .int .i64 c] 24)).alloc (.cells #[.int .i64 0, .int .i64 0, .int .i64 0] 24))) (by (repeat' (first | (with_reducible exact Below.refl _ _) | (with_reducible refine Below.alloc ?_ ?_ _) | (with_reducible refine Below.setCell ?_ ?_ _) | (with_reducible refine Below.drew ?_) | (with_reducible refine below_drewN ?_ _) | (with_reducible assumption) | (with_reducible refine below_after (by with_reducible assumption) ?_) | go_size)))
        (try simp only [World.size_alloc] at h)
        rw [hG] at h
        rw [hw0]; exact h
      have HB : Hid (Below w.heap.size w w0) := by show Below w.heap.size w w0; rw [hw0]; (repeat' (first | (with_reducible exact Below.refl _ _) | (with_reducible refine Below.alloc ?_ ?_ _) | (with_reducible refine Below.setCell ?_ ?_ _) | (with_reducible refine Below.drew ?_) | (with_reducible refine below_drewN ?_ _) | (with_reducible assumption) | (with_reducible refine below_after (by with_reducible assumption) ?_) | go_size))
      clear hw0
      obtain ⟨GR, hGR⟩ : ∃ g, GM + 1 + 1 = g := ⟨_, rfl⟩
      rw [hGR] at HR ⊢
      obtain ⟨GT, hGT⟩ : ∃ g, GM + 1 = g := ⟨_, rfl⟩
      rw [hGT] at HT ⊢
      have le_M : w.heap.size ≤ GM := by omega
      have le_T : w.heap.size ≤ GT := by omega
      have ne_T_M : GT ≠ GM := by omega
      have ne_M_T : GM ≠ GT := by omega
      have le_R : w.heap.size ≤ GR := by omega
      have ne_R_M : GR ≠ GM := by omega
      have ne_M_R : GM ≠ GR := by omega
      have ne_R_T : GR ≠ GT := by omega
      have ne_T_R : GT ≠ GR := by omega
      clear hGT hGR
      obtain ⟨⟨qM0, qM1, qM2, qM3, qM4, qM5, qM6, qM7, qM8⟩, ⟨fM0, fM1, fM2, fM3, fM4, fM5, fM6, fM7, fM8⟩, zM⟩ := HM.out
      obtain ⟨⟨qT0, qT1, qT2⟩, ⟨fT0, fT1, fT2⟩, zT⟩ := HT.out
      obtain ⟨⟨qR0, qR1, qR2⟩, ⟨fR0, fR1, fR2⟩, zR⟩ := HR.out
      go_wp2_with fail
      go_at_call 18
      refine (HIST.out _).mono ?_
      rintro e w1 ⟨rfl, hb⟩
      clear qM0 fM0 qM1 fM1 qM2 fM2 qM3 fM3 qM4 fM4 qM5 fM5 qM6 fM6 qM7 fM7 qM8 fM8 zM qT0 fT0 qT1 fT1 qT2 fT2 zT qR0 fR0 qR1 fR1 qR2 fR2 zR
      have HM := Lib.hid (HM.out.below hb)
      have HT := Lib.hid (HT.out.below hb)
      have HR := Lib.hid (HR.out.below hb)
      have HB := Lib.hid (below_after hb HB.out)
      clear hb
      obtain ⟨⟨qM0, qM1, qM2, qM3, qM4, qM5, qM6, qM7, qM8⟩, ⟨fM0, fM1, fM2, fM3, fM4, fM5, fM6, fM7, fM8⟩, zM⟩ := HM.out
      obtain ⟨⟨qT0, qT1, qT2⟩, ⟨fT0, fT1, fT2⟩, zT⟩ := HT.out
      obtain ⟨⟨qR0, qR1, qR2⟩, ⟨fR0, fR1, fR2⟩, zR⟩ := HR.out
      go_wp2_with fail
      go_at_call 72
      refine (HFIT.out _).mono ?_
      rintro e w2 ⟨rfl, hb⟩
      clear qM0 fM0 qM1 fM1 qM2 fM2 qM3 fM3 qM4 fM4 qM5 fM5 qM6 fM6 qM7 fM7 qM8 fM8 zM qT0 fT0 qT1 fT1 qT2 fT2 zT qR0 fR0 qR1 fR1 qR2 fR2 zR
      have HM := Lib.hid (HM.out.below hb)
      have HT := Lib.hid (HT.out.below hb)
      have HR := Lib.hid (HR.out.below hb)
      have HB := Lib.hid (below_after hb HB.out)
      clear hb
      obtain ⟨⟨qM0, qM1, qM2, qM3, qM4, qM5, qM6, qM7, qM8⟩, ⟨fM0, fM1, fM2, fM3, fM4, fM5, fM6, fM7, fM8⟩, zM⟩ := HM.out
      obtain ⟨⟨qT0, qT1, qT2⟩, ⟨fT0, fT1, fT2⟩, zT⟩ := HT.out
      obtain ⟨⟨qR0, qR1, qR2⟩, ⟨fR0, fR1, fR2⟩, zR⟩ := HR.out
      go_wp2_with fail
      refine bodyPost_ret (v := .tuple #[.agg #[.int .i64 0, .int .i64 0, .int .i64 0], .int .i64 2]) (by simp (maxDischargeDepth := 8) [results, Try.results40, go_sem, *]) rfl ?_
      have hb := HB.out
      exact ⟨rfl, by (repeat' (first | (with_reducible exact Below.refl _ _) | (with_reducible refine Below.alloc ?_ ?_ _) | (with_reducible refine Below.setCell ?_ ?_ _) | (with_reducible refine Below.drew ?_) | (with_reducible refine below_drewN ?_ _) | (with_reducible assumption) | (with_reducible refine below_after (by with_reducible assumption) ?_) | go_size))⟩
    · rw [hf] at HFIT
      have e1 : apK m0 m1 m2 m3 m4 m5 m6 m7 m8 a b c = asK (asS m0 m1 m2 a b c) (asS m3 m4 m5 a b c) (asS m6 m7 m8 a b c) := by unfold apK; rw [if_pos ht, if_pos hf]
      have e2 : ∀ x, apV m0 m1 m2 m3 m4 m5 m6 m7 m8 a b c x = asV (asS m0 m1 m2 a b c) (asS m3 m4 m5 a b c) (asS m6 m7 m8 a b c) x := fun x => by unfold apV asV; rw [e1]
      rw [e1, e2, e2, e2]
      have hb : ∀ c, c < 9 → 0 ≤ nine m0 m1 m2 m3 m4 m5 m6 m7 m8 c ∧ nine m0 m1 m2 m3 m4 m5 m6 m7 m8 c ≤ 1000000 := fun c hc => wh_iff.1 (fit9_iff.1 hf c hc)
      obtain ⟨ha, hbb, hc, _⟩ := isTr_parts ht
      have hp : ∀ i, i < 9 → ∀ z, (0 ≤ z ∧ z ≤ 1000000) → 0 ≤ nine m0 m1 m2 m3 m4 m5 m6 m7 m8 i * z ∧ nine m0 m1 m2 m3 m4 m5 m6 m7 m8 i * z ≤ 1000000000000 := fun i hi z hz => by
        have h := hb i hi
        have p0 := Int.mul_nonneg h.1 hz.1
        have p1 : nine m0 m1 m2 m3 m4 m5 m6 m7 m8 i * z ≤ 1000000 * 1000000 := Int.mul_le_mul h.2 hz.2 hz.1 (by omega)
        omega
      have q00 := hp 0 (by omega) a ha
      have q01 := hp 1 (by omega) b hbb
      have q02 := hp 2 (by omega) c hc
      have q10 := hp 3 (by omega) a ha
      have q11 := hp 4 (by omega) b hbb
      have q12 := hp 5 (by omega) c hc
      have q20 := hp 6 (by omega) a ha
      have q21 := hp 7 (by omega) b hbb
      have q22 := hp 8 (by omega) c hc
      simp only [nine] at q00 q01 q02 q10 q11 q12 q20 q21 q22
      refine impl_ApplySquare_ok m0 m1 m2 m3 m4 m5 m6 m7 m8 a b c (m0 * a) (m0 * a + m1 * b) (m0 * a + m1 * b + m2 * c) (m3 * a) (m3 * a + m4 * b) (m3 * a + m4 * b + m5 * c) (m6 * a) (m6 * a + m7 * b) (m6 * a + m7 * b + m8 * c) _ w (Lib.hid (by simp)) (Lib.hid (by rfl)) (Lib.hid (by rfl)) (Lib.hid (by simp)) (Lib.hid (by rfl)) (Lib.hid (by rfl)) (Lib.hid (by simp)) (Lib.hid (by rfl)) (Lib.hid (by rfl)) (Lib.hid hb) (Lib.hid ⟨ha, hbb, hc⟩) (Lib.hid (by omega)) (Lib.hid rfl) HIST HFIT
end Go.Proofs.Ytbgifgfegndlkaa
