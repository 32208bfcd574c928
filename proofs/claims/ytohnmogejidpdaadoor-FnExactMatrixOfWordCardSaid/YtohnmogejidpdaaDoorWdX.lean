/-
  Matrices of words, in the model and in the program (own work).
-/
import Derived.Test.YtohnmogejidpdaaDoorWdW
import Derived.Test.YtohnmogejidpdaaDoorMul2
import Derived.Test.YtohnmogejidpdaaDoorEq
namespace Go.Proofs.YtohnmogejidpdaaDoor
open Go.ChangeShapes Go.WideShapes Go.ChangeAt Go.RowKit
set_option linter.unusedVariables false
set_option linter.unusedSimpArgs false
set_option maxRecDepth 100000

/-- The matrix behind a letter; the matrix of a word from a matrix on, if its numbers are not too great. -/
def wm : List UInt8 → Int → Int → Int → Int → Option (Int × Int × Int × Int)
  | [], a, b, c, d => some (a, b, c, d)
  | x :: t, a, b, c, d =>
    if x = 76 then (if isMx (a + b) b (c + d) d = true then wm t (a + b) b (c + d) d else none)
    else (if isMx a (a + b) c (c + d) = true then wm t a (a + b) c (c + d) else none)
theorem wm_L {l : List UInt8} {i : Nat} {a b c d : Int} (h : i < l.length) (hb : l[i] = 76) : wm (l.drop i) a b c d = if isMx (a + b) b (c + d) d = true then wm (l.drop (i + 1)) (a + b) b (c + d) d else none := by
  rw [drop_at h, wm, if_pos hb]
theorem wm_R {l : List UInt8} {i : Nat} {a b c d : Int} (h : i < l.length) (hb : l[i] = 82) : wm (l.drop i) a b c d = if isMx a (a + b) c (c + d) = true then wm (l.drop (i + 1)) a (a + b) c (c + d) else none := by
  rw [drop_at h, wm, if_neg (by rw [hb]; decide)]
def wmV (o : Option (Int × Int × Int × Int)) (yes no : Value) : Value := match o with
  | some (a, b, c, d) => .tuple #[.agg #[.int .i64 a, .int .i64 b, .int .i64 c, .int .i64 d], yes]
  | none => .tuple #[.agg #[.int .i64 0, .int .i64 0, .int .i64 0, .int .i64 0], no]
theorem mx_bn {a b c d : Int} (h : isMx a b c d = true) : Bn a ∧ Bn b ∧ Bn c ∧ Bn d := by
  simp only [isMx, Bool.and_eq_true] at h
  exact ⟨isPt_bn1 h.1, isPt_bn2 h.1, isPt_bn1 h.2, isPt_bn2 h.2⟩
theorem one_bn : Bn 1 ∧ Bn 0 := by unfold Bn; omega
theorem times_L (a b c d : Int) (w : World) (h : isMx a b c d = true) : Calls Tryd.prog 29 #[.agg #[.int .i64 a, .int .i64 b, .int .i64 c, .int .i64 d], .agg #[.int .i64 1, .int .i64 0, .int .i64 1, .int .i64 1]] w fun e w' => e = .returned (.agg #[.int .i64 (a + b), .int .i64 b, .int .i64 (c + d), .int .i64 d]) ∧ Below w.heap.size w w' := by
  obtain ⟨h0, h1, h2, h3⟩ := mx_bn h
  have := l01Times_any a b c d 1 0 1 1 w h0 h1 h2 h3 one_bn.1 one_bn.2 one_bn.1 one_bn.1
  rwa [show a * 1 + b * 1 = a + b from by omega, show a * 0 + b * 1 = b from by omega, show c * 1 + d * 1 = c + d from by omega, show c * 0 + d * 1 = d from by omega] at this
theorem times_R (a b c d : Int) (w : World) (h : isMx a b c d = true) : Calls Tryd.prog 29 #[.agg #[.int .i64 a, .int .i64 b, .int .i64 c, .int .i64 d], .agg #[.int .i64 1, .int .i64 1, .int .i64 0, .int .i64 1]] w fun e w' => e = .returned (.agg #[.int .i64 a, .int .i64 (a + b), .int .i64 c, .int .i64 (c + d)]) ∧ Below w.heap.size w w' := by
  obtain ⟨h0, h1, h2, h3⟩ := mx_bn h
  have := l01Times_any a b c d 1 1 0 1 w h0 h1 h2 h3 one_bn.1 one_bn.1 one_bn.2 one_bn.1
  rwa [show a * 1 + b * 0 = a from by omega, show a * 1 + b * 1 = a + b from by omega, show c * 1 + d * 0 = c from by omega, show c * 1 + d * 1 = c + d from by omega] at this
theorem mult_L (a b c d : Int) (w : World) (h : isMx a b c d = true) : Calls Tryd.prog 20 #[.agg #[.int .i64 a, .int .i64 b, .int .i64 c, .int .i64 d], .agg #[.int .i64 1, .int .i64 0, .int .i64 1, .int .i64 1]] w fun e w' => e = .returned (wmV (if isMx (a + b) b (c + d) d = true then some (a + b, b, c + d, d) else none) (.int .i64 0) (.int .i64 3)) ∧ Below w.heap.size w w' := by
  have hy := impl_MultiplyMatrices_yes a b c d 1 0 1 1 w h (by decide)
  have hl := impl_MultiplyMatrices_limit a b c d 1 0 1 1 w h (by decide)
  rw [show a * 1 + b * 1 = a + b from by omega, show a * 0 + b * 1 = b from by omega, show c * 1 + d * 1 = c + d from by omega, show c * 0 + d * 1 = d from by omega] at hy hl
  cases hm : isMx (a + b) b (c + d) d
  · rw [if_neg (by decide)]; exact hl hm
  · rw [if_pos rfl]; exact hy hm
theorem mult_R (a b c d : Int) (w : World) (h : isMx a b c d = true) : Calls Tryd.prog 20 #[.agg #[.int .i64 a, .int .i64 b, .int .i64 c, .int .i64 d], .agg #[.int .i64 1, .int .i64 1, .int .i64 0, .int .i64 1]] w fun e w' => e = .returned (wmV (if isMx a (a + b) c (c + d) = true then some (a, a + b, c, c + d) else none) (.int .i64 0) (.int .i64 3)) ∧ Below w.heap.size w w' := by
  have hy := impl_MultiplyMatrices_yes a b c d 1 1 0 1 w h (by decide)
  have hl := impl_MultiplyMatrices_limit a b c d 1 1 0 1 w h (by decide)
  rw [show a * 1 + b * 0 = a from by omega, show a * 1 + b * 1 = a + b from by omega, show c * 1 + d * 0 = c from by omega, show c * 1 + d * 1 = c + d from by omega] at hy hl
  cases hm : isMx a (a + b) c (c + d)
  · rw [if_neg (by decide)]; exact hl hm
  · rw [if_pos rfl]; exact hy hm
theorem letter_L (w : World) : Calls Tryd.prog 21 #[.int .u8 76] w fun e w' => e = .returned (.agg #[.int .i64 1, .int .i64 0, .int .i64 1, .int .i64 1]) ∧ Below w.heap.size w w' := by
  go_enter Tryd.func21, Tryd.ntmps21
  go_wp2
  refine bodyPost_ret (v := .agg #[.int .i64 1, .int .i64 0, .int .i64 1, .int .i64 1]) (by simp (maxDischargeDepth := 8) [results, Tryd.results21, go_sem, *]) rfl ?_
  exact ⟨rfl, by (repeat' (first | (with_reducible exact Below.refl _ _) | (with_reducible refine Below.alloc ?_ ?_ _) | (with_reducible refine Below.setCell ?_ ?_ _) | (with_reducible refine Below.drew ?_) | (with_reducible refine below_drewN ?_ _) | (with_reducible assumption) | (with_reducible refine below_after (by with_reducible assumption) ?_) | go_size))⟩
theorem letter_R (w : World) : Calls Tryd.prog 21 #[.int .u8 82] w fun e w' => e = .returned (.agg #[.int .i64 1, .int .i64 1, .int .i64 0, .int .i64 1]) ∧ Below w.heap.size w w' := by
  go_enter Tryd.func21, Tryd.ntmps21
  go_wp2
  refine bodyPost_ret (v := .agg #[.int .i64 1, .int .i64 1, .int .i64 0, .int .i64 1]) (by simp (maxDischargeDepth := 8) [results, Tryd.results21, go_sem, *]) rfl ?_
  exact ⟨rfl, by (repeat' (first | (with_reducible exact Below.refl _ _) | (with_reducible refine Below.alloc ?_ ?_ _) | (with_reducible refine Below.setCell ?_ ?_ _) | (with_reducible refine Below.drew ?_) | (with_reducible refine below_drewN ?_ _) | (with_reducible assumption) | (with_reducible refine below_after (by with_reducible assumption) ?_) | go_size))⟩
theorem unitMatrix_any (w : World) : Calls Tryd.prog 19 #[] w fun e w' => e = .returned (.agg #[.int .i64 1, .int .i64 0, .int .i64 0, .int .i64 1]) ∧ Below w.heap.size w w' := by
  go_enter Tryd.func19, Tryd.ntmps19
  go_wp2
  refine bodyPost_ret (v := .agg #[.int .i64 1, .int .i64 0, .int .i64 0, .int .i64 1]) (by simp (maxDischargeDepth := 8) [results, Tryd.results19, go_sem, *]) rfl ?_
  exact ⟨rfl, by (repeat' (first | (with_reducible exact Below.refl _ _) | (with_reducible refine Below.alloc ?_ ?_ _) | (with_reducible refine Below.setCell ?_ ?_ _) | (with_reducible refine Below.drew ?_) | (with_reducible refine below_drewN ?_ _) | (with_reducible assumption) | (with_reducible refine below_after (by with_reducible assumption) ?_) | go_size))⟩
set_option maxHeartbeats 6400000 in
theorem l06Matrix_any (l : List UInt8) (w : World) (hl : l.length ≤ 1048576) (hok : okL l = true) : Calls Tryd.prog 17 #[.string ⟨l.toArray⟩] w fun e w' => e = .returned (wmV (wm l 1 0 0 1) (.bool true) (.bool false)) ∧ Below w.heap.size w w' := by
  have hsz := bytes_size l
  have HOK := Lib.hid hok
  obtain ⟨W, hW⟩ : ∃ W, wm l 1 0 0 1 = W := ⟨_, rfl⟩
  have HF : Hid (wm (l.drop 0) 1 0 0 1 = W) := hW
  rw [hW]
  clear hW hok
  obtain ⟨GR, hG⟩ : ∃ G, w.heap.size = G := ⟨_, rfl⟩
  have HG := Lib.hid hG
  go_enter Tryd.func17, Tryd.ntmps17
  go_upto_region 2 with fail
  obtain ⟨w0, hw0⟩ : ∃ w0, w0 = ((w.alloc (.cells #[.int .i64 0, .int .i64 0, .int .i64 0, .int .i64 0] 24)).alloc (.cells #[.int .i64 1, .int .i64 0, .int .i64 0, .int .i64 1] 24)) := ⟨_, rfl⟩
  rw [← hw0]
  have HR : Hid (Bk4 w0 GR 0 0 0 0) := by
    have h := (bk4_new w 0 0 0 0 24).below (W' := ((w.alloc (.cells #[.int .i64 0, .int .i64 0, .int .i64 0, .int .i64 0] 24)).alloc (.cells #[.int .i64 1, .int .i64 0, .int .i64 0, .int .i64 1] 24))) (by (repeat' (first | (with_reducible exact Below.refl _ _) | (with_reducible refine Below.alloc ?_ ?_ _) | (with_reducible refine Below.setCell ?_ ?_ _) | (with_reducible refine Below.drew ?_) | (with_reducible refine below_drewN ?_ _) | (with_reducible assumption) | (with_reducible refine below_after (by with_reducible assumption) ?_) | go_size)))
    (try simp only [World.size_alloc] at h)
    rw [hG] at h
    rw [hw0]; exact h
  have HM : Hid (Bk4 w0 (GR + 1) 1 0 0 1) := by
    have h := (bk4_new (w.alloc (.cells #[.int .i64 0, .int .i64 0, .int .i64 0, .int .i64 0] 24)) 1 0 0 1 24).below (W' := ((w.alloc (.cells #[.int .i64 0, .int .i64 0, .int .i64 0, .int .i64 0] 24)).alloc (.cells #[.int .i64 1, .int .i64 0, .int .i64 0, .int .i64 1] 24))) (by (repeat' (first | (with_reducible exact Below.refl _ _) | (with_reducible refine Below.alloc ?_ ?_ _) | (with_reducible refine Below.setCell ?_ ?_ _) | (with_reducible refine Below.drew ?_) | (with_reducible refine below_drewN ?_ _) | (with_reducible assumption) | (with_reducible refine below_after (by with_reducible assumption) ?_) | go_size)))
    (try simp only [World.size_alloc] at h)
    rw [hG] at h
    rw [hw0]; exact h
  have HB : Hid (Below w.heap.size w w0) := by show Below w.heap.size w w0; rw [hw0]; (repeat' (first | (with_reducible exact Below.refl _ _) | (with_reducible refine Below.alloc ?_ ?_ _) | (with_reducible refine Below.setCell ?_ ?_ _) | (with_reducible refine Below.drew ?_) | (with_reducible refine below_drewN ?_ _) | (with_reducible assumption) | (with_reducible refine below_after (by with_reducible assumption) ?_) | go_size))
  clear hw0
  obtain ⟨GM, hGM⟩ : ∃ g, GR + 1 = g := ⟨_, rfl⟩
  rw [hGM] at HM ⊢
  have le_R : w.heap.size ≤ GR := by omega
  have le_M : w.heap.size ≤ GM := by omega
  have ne_M_R : GM ≠ GR := by omega
  have ne_R_M : GR ≠ GM := by omega
  clear hGM
  go_wp2_with fail
  go_loopw [5] (fun x wr => ∃ (i : Nat) (a b c d : Int), x = .int .i64 (i : Int) ∧ i ≤ l.length ∧ isMx a b c d = true ∧ wm (l.drop i) a b c d = W ∧ Bk4 wr GR 0 0 0 0 ∧ Bk4 wr GM a b c d ∧ Below w.heap.size w wr) (fun x _ => l.length - (intOf x).toNat)
  case atStart => exact ⟨0, 1, 0, 0, 1, rfl, by omega, by decide, HF.out, HR.out, HM.out, HB.out⟩
  case round =>
    obtain ⟨i, a, b, c, d, rfl, hi, hmx, hwm, hR, hM, hbel⟩ := hrel
    clear HR HM HB
    have HR := Lib.hid hR
    have HM := Lib.hid hM
    have HB := Lib.hid hbel
    have HW := Lib.hid hwm
    have HMX := Lib.hid hmx
    clear hR hM hbel hwm hmx
    by_cases hil : i < l.length
    · skip
      have hlt : decide ((i : Int) < (l.length : Int)) = true := by simp; omega
      obtain ⟨q, hq⟩ : ∃ q, l[i] = q := ⟨_, rfl⟩
      have hidx := at_byte l i q hil hq
      have HI : Hid (∀ h : i < l.length, l[i] = q) := fun _ => hq
      have hlet : q = 76 ∨ q = 82 := by have := okL_at HOK.out i hil; rwa [hq] at this
      clear hq
      rcases hlet with rfl | rfl
      · skip
        have HT : Hid (∀ w, Calls Tryd.prog 29 #[.agg #[.int .i64 a, .int .i64 b, .int .i64 c, .int .i64 d], .agg #[.int .i64 1, .int .i64 0, .int .i64 1, .int .i64 1]] w fun e w' => e = .returned (.agg #[.int .i64 (a + b), .int .i64 b, .int .i64 (c + d), .int .i64 d]) ∧ Below w.heap.size w w') := fun w => times_L a b c d w HMX.out
        have HS := HW.out
        rw [wm_L hil (HI.out hil)] at HS
        have HQ : Hid (∀ w, Calls Tryd.prog 30 #[.agg #[.int .i64 (a + b), .int .i64 b, .int .i64 (c + d), .int .i64 d]] w fun e w' => e = .returned (.bool (isMx (a + b) b (c + d) d)) ∧ Below w.heap.size w w') := fun w => l01Matrix_any _ _ _ _ w
        clear HI
        obtain ⟨x0, hx0⟩ : ∃ z, a + b = z := ⟨_, rfl⟩
        obtain ⟨x2, hx2⟩ : ∃ z, c + d = z := ⟨_, rfl⟩
        rw [hx0, hx2] at HT HS HQ
        clear hx0 hx2
        cases hmq : isMx x0 b x2 d
        · rw [hmq] at HS HQ
          have HS2 : Hid (none = W) := by rw [if_neg (by decide)] at HS; exact HS
          clear HS hmq
          obtain ⟨⟨qR0, qR1, qR2, qR3⟩, ⟨fR0, fR1, fR2, fR3⟩, zR⟩ := HR.out
          obtain ⟨⟨qM0, qM1, qM2, qM3⟩, ⟨fM0, fM1, fM2, fM3⟩, zM⟩ := HM.out
          go_upto_region 6 with fail
          obtain ⟨GK, hGK⟩ : ∃ g, wr.heap.size = g := ⟨_, rfl⟩
          obtain ⟨w21, hw21⟩ : ∃ wx, wx = wr.alloc (.cells #[.int .i64 1, .int .i64 0, .int .i64 1, .int .i64 1] 24) := ⟨_, rfl⟩
          rw [← hw21, hGK]
          have HK : Hid (Bk4 w21 GK 1 0 1 1) := by rw [hw21, ← hGK]; exact bk4_new wr 1 0 1 1 _
          have le_K : w.heap.size ≤ GK := by rw [← hGK]; exact HB.out.size
          have ne_K_R : GK ≠ GR := by have := HR.out.2.2; omega
          have ne_R_K : GR ≠ GK := Ne.symm ne_K_R
          have ne_K_M : GK ≠ GM := by have := HM.out.2.2; omega
          have ne_M_K : GM ≠ GK := Ne.symm ne_K_M
          clear qR0 fR0 qR1 fR1 qR2 fR2 qR3 fR3 zR qM0 fM0 qM1 fM1 qM2 fM2 qM3 fM3 zM
          have HR := Lib.hid (HR.out.below ((Below.refl _ _).alloc (Nat.le_refl _) (.cells #[.int .i64 1, .int .i64 0, .int .i64 1, .int .i64 1] 24)))
          have HM := Lib.hid (HM.out.below ((Below.refl _ _).alloc (Nat.le_refl _) (.cells #[.int .i64 1, .int .i64 0, .int .i64 1, .int .i64 1] 24)))
          have HB := Lib.hid (Below.alloc HB.out HB.out.size (.cells #[.int .i64 1, .int .i64 0, .int .i64 1, .int .i64 1] 24))
          rw [← hw21] at HR HM HB
          clear hw21 hGK
          obtain ⟨⟨qR0, qR1, qR2, qR3⟩, ⟨fR0, fR1, fR2, fR3⟩, zR⟩ := HR.out
          obtain ⟨⟨qM0, qM1, qM2, qM3⟩, ⟨fM0, fM1, fM2, fM3⟩, zM⟩ := HM.out
          obtain ⟨⟨qK0, qK1, qK2, qK3⟩, ⟨fK0, fK1, fK2, fK3⟩, zK⟩ := HK.out
          go_wp2_with fail
          go_at_call 29
          refine (HT.out _).mono ?_
          rintro e w22 ⟨rfl, hb⟩
          clear qR0 fR0 qR1 fR1 qR2 fR2 qR3 fR3 zR qM0 fM0 qM1 fM1 qM2 fM2 qM3 fM3 zM qK0 fK0 qK1 fK1 qK2 fK2 qK3 fK3 zK
          have HR := Lib.hid (HR.out.below hb)
          have HM := Lib.hid (HM.out.below hb)
          have HK := Lib.hid (HK.out.below hb)
          have HB := Lib.hid (below_after hb HB.out)
          clear hb
          obtain ⟨⟨qR0, qR1, qR2, qR3⟩, ⟨fR0, fR1, fR2, fR3⟩, zR⟩ := HR.out
          obtain ⟨⟨qM0, qM1, qM2, qM3⟩, ⟨fM0, fM1, fM2, fM3⟩, zM⟩ := HM.out
          obtain ⟨⟨qK0, qK1, qK2, qK3⟩, ⟨fK0, fK1, fK2, fK3⟩, zK⟩ := HK.out
          go_upto_region 9 with fail
          obtain ⟨w23, hw23⟩ : ∃ wx, wx = ((((w22.setCell ⟨GM, 0, none⟩ (.int .i64 x0)).setCell ⟨GM, 1, none⟩ (.int .i64 b)).setCell ⟨GM, 2, none⟩ (.int .i64 x2)).setCell ⟨GM, 3, none⟩ (.int .i64 d)) := ⟨_, rfl⟩
          rw [← hw23]
          clear qR0 fR0 qR1 fR1 qR2 fR2 qR3 fR3 zR qM0 fM0 qM1 fM1 qM2 fM2 qM3 fM3 zM qK0 fK0 qK1 fK1 qK2 fK2 qK3 fK3 zK
          have HR := Lib.hid ((((HR.out.far ⟨GM, 0, none⟩ (.int .i64 x0) (by show GR ≠ GM; exact ne_R_M)).far ⟨GM, 1, none⟩ (.int .i64 b) (by show GR ≠ GM; exact ne_R_M)).far ⟨GM, 2, none⟩ (.int .i64 x2) (by show GR ≠ GM; exact ne_R_M)).far ⟨GM, 3, none⟩ (.int .i64 d) (by show GR ≠ GM; exact ne_R_M))
          have HK := Lib.hid ((((HK.out.far ⟨GM, 0, none⟩ (.int .i64 x0) (by show GK ≠ GM; exact ne_K_M)).far ⟨GM, 1, none⟩ (.int .i64 b) (by show GK ≠ GM; exact ne_K_M)).far ⟨GM, 2, none⟩ (.int .i64 x2) (by show GK ≠ GM; exact ne_K_M)).far ⟨GM, 3, none⟩ (.int .i64 d) (by show GK ≠ GM; exact ne_K_M))
          have HM := Lib.hid ((((HM.out.set0 x0).set1 b).set2 x2).set3 d)
          have HB := Lib.hid (Below.setCell (Below.setCell (Below.setCell (Below.setCell HB.out (p := ⟨GM, 0, none⟩) le_M (.int .i64 x0)) (p := ⟨GM, 1, none⟩) le_M (.int .i64 b)) (p := ⟨GM, 2, none⟩) le_M (.int .i64 x2)) (p := ⟨GM, 3, none⟩) le_M (.int .i64 d))
          rw [← hw23] at HR HM HK HB
          clear hw23
          obtain ⟨⟨qR0, qR1, qR2, qR3⟩, ⟨fR0, fR1, fR2, fR3⟩, zR⟩ := HR.out
          obtain ⟨⟨qM0, qM1, qM2, qM3⟩, ⟨fM0, fM1, fM2, fM3⟩, zM⟩ := HM.out
          obtain ⟨⟨qK0, qK1, qK2, qK3⟩, ⟨fK0, fK1, fK2, fK3⟩, zK⟩ := HK.out
          go_wp2_with fail
          go_at_call 30
          refine (HQ.out _).mono ?_
          rintro e w24 ⟨rfl, hb⟩
          clear qR0 fR0 qR1 fR1 qR2 fR2 qR3 fR3 zR qM0 fM0 qM1 fM1 qM2 fM2 qM3 fM3 zM qK0 fK0 qK1 fK1 qK2 fK2 qK3 fK3 zK
          have HR := Lib.hid (HR.out.below hb)
          have HM := Lib.hid (HM.out.below hb)
          have HK := Lib.hid (HK.out.below hb)
          have HB := Lib.hid (below_after hb HB.out)
          clear hb
          obtain ⟨⟨qR0, qR1, qR2, qR3⟩, ⟨fR0, fR1, fR2, fR3⟩, zR⟩ := HR.out
          obtain ⟨⟨qM0, qM1, qM2, qM3⟩, ⟨fM0, fM1, fM2, fM3⟩, zM⟩ := HM.out
          obtain ⟨⟨qK0, qK1, qK2, qK3⟩, ⟨fK0, fK1, fK2, fK3⟩, zK⟩ := HK.out
          go_wp2_with fail
          refine bodyPost_ret (v := .tuple #[.agg #[.int .i64 0, .int .i64 0, .int .i64 0, .int .i64 0], .bool false]) (by simp (maxDischargeDepth := 8) [results, Tryd.results17, go_sem, *]) rfl ?_
          have hb := HB.out
          exact ⟨by rw [← HS2.out]; rfl, by (repeat' (first | (with_reducible exact Below.refl _ _) | (with_reducible refine Below.alloc ?_ ?_ _) | (with_reducible refine Below.setCell ?_ ?_ _) | (with_reducible refine Below.drew ?_) | (with_reducible refine below_drewN ?_ _) | (with_reducible assumption) | (with_reducible refine below_after (by with_reducible assumption) ?_) | go_size))⟩
        · rw [hmq] at HS HQ
          have HS2 : Hid (wm (l.drop (i + 1)) x0 b x2 d = W) := by rw [if_pos rfl] at HS; exact HS
          have HMX2 := Lib.hid hmq
          clear HS hmq
          obtain ⟨⟨qR0, qR1, qR2, qR3⟩, ⟨fR0, fR1, fR2, fR3⟩, zR⟩ := HR.out
          obtain ⟨⟨qM0, qM1, qM2, qM3⟩, ⟨fM0, fM1, fM2, fM3⟩, zM⟩ := HM.out
          go_upto_region 6 with fail
          obtain ⟨GK, hGK⟩ : ∃ g, wr.heap.size = g := ⟨_, rfl⟩
          obtain ⟨w21, hw21⟩ : ∃ wx, wx = wr.alloc (.cells #[.int .i64 1, .int .i64 0, .int .i64 1, .int .i64 1] 24) := ⟨_, rfl⟩
          rw [← hw21, hGK]
          have HK : Hid (Bk4 w21 GK 1 0 1 1) := by rw [hw21, ← hGK]; exact bk4_new wr 1 0 1 1 _
          have le_K : w.heap.size ≤ GK := by rw [← hGK]; exact HB.out.size
          have ne_K_R : GK ≠ GR := by have := HR.out.2.2; omega
          have ne_R_K : GR ≠ GK := Ne.symm ne_K_R
          have ne_K_M : GK ≠ GM := by have := HM.out.2.2; omega
          have ne_M_K : GM ≠ GK := Ne.symm ne_K_M
          clear qR0 fR0 qR1 fR1 qR2 fR2 qR3 fR3 zR qM0 fM0 qM1 fM1 qM2 fM2 qM3 fM3 zM
          have HR := Lib.hid (HR.out.below ((Below.refl _ _).alloc (Nat.le_refl _) (.cells #[.int .i64 1, .int .i64 0, .int .i64 1, .int .i64 1] 24)))
          have HM := Lib.hid (HM.out.below ((Below.refl _ _).alloc (Nat.le_refl _) (.cells #[.int .i64 1, .int .i64 0, .int .i64 1, .int .i64 1] 24)))
          have HB := Lib.hid (Below.alloc HB.out HB.out.size (.cells #[.int .i64 1, .int .i64 0, .int .i64 1, .int .i64 1] 24))
          rw [← hw21] at HR HM HB
          clear hw21 hGK
          obtain ⟨⟨qR0, qR1, qR2, qR3⟩, ⟨fR0, fR1, fR2, fR3⟩, zR⟩ := HR.out
          obtain ⟨⟨qM0, qM1, qM2, qM3⟩, ⟨fM0, fM1, fM2, fM3⟩, zM⟩ := HM.out
          obtain ⟨⟨qK0, qK1, qK2, qK3⟩, ⟨fK0, fK1, fK2, fK3⟩, zK⟩ := HK.out
          go_wp2_with fail
          go_at_call 29
          refine (HT.out _).mono ?_
          rintro e w22 ⟨rfl, hb⟩
          clear qR0 fR0 qR1 fR1 qR2 fR2 qR3 fR3 zR qM0 fM0 qM1 fM1 qM2 fM2 qM3 fM3 zM qK0 fK0 qK1 fK1 qK2 fK2 qK3 fK3 zK
          have HR := Lib.hid (HR.out.below hb)
          have HM := Lib.hid (HM.out.below hb)
          have HK := Lib.hid (HK.out.below hb)
          have HB := Lib.hid (below_after hb HB.out)
          clear hb
          obtain ⟨⟨qR0, qR1, qR2, qR3⟩, ⟨fR0, fR1, fR2, fR3⟩, zR⟩ := HR.out
          obtain ⟨⟨qM0, qM1, qM2, qM3⟩, ⟨fM0, fM1, fM2, fM3⟩, zM⟩ := HM.out
          obtain ⟨⟨qK0, qK1, qK2, qK3⟩, ⟨fK0, fK1, fK2, fK3⟩, zK⟩ := HK.out
          go_upto_region 9 with fail
          obtain ⟨w23, hw23⟩ : ∃ wx, wx = ((((w22.setCell ⟨GM, 0, none⟩ (.int .i64 x0)).setCell ⟨GM, 1, none⟩ (.int .i64 b)).setCell ⟨GM, 2, none⟩ (.int .i64 x2)).setCell ⟨GM, 3, none⟩ (.int .i64 d)) := ⟨_, rfl⟩
          rw [← hw23]
          clear qR0 fR0 qR1 fR1 qR2 fR2 qR3 fR3 zR qM0 fM0 qM1 fM1 qM2 fM2 qM3 fM3 zM qK0 fK0 qK1 fK1 qK2 fK2 qK3 fK3 zK
          have HR := Lib.hid ((((HR.out.far ⟨GM, 0, none⟩ (.int .i64 x0) (by show GR ≠ GM; exact ne_R_M)).far ⟨GM, 1, none⟩ (.int .i64 b) (by show GR ≠ GM; exact ne_R_M)).far ⟨GM, 2, none⟩ (.int .i64 x2) (by show GR ≠ GM; exact ne_R_M)).far ⟨GM, 3, none⟩ (.int .i64 d) (by show GR ≠ GM; exact ne_R_M))
          have HK := Lib.hid ((((HK.out.far ⟨GM, 0, none⟩ (.int .i64 x0) (by show GK ≠ GM; exact ne_K_M)).far ⟨GM, 1, none⟩ (.int .i64 b) (by show GK ≠ GM; exact ne_K_M)).far ⟨GM, 2, none⟩ (.int .i64 x2) (by show GK ≠ GM; exact ne_K_M)).far ⟨GM, 3, none⟩ (.int .i64 d) (by show GK ≠ GM; exact ne_K_M))
          have HM := Lib.hid ((((HM.out.set0 x0).set1 b).set2 x2).set3 d)
          have HB := Lib.hid (Below.setCell (Below.setCell (Below.setCell (Below.setCell HB.out (p := ⟨GM, 0, none⟩) le_M (.int .i64 x0)) (p := ⟨GM, 1, none⟩) le_M (.int .i64 b)) (p := ⟨GM, 2, none⟩) le_M (.int .i64 x2)) (p := ⟨GM, 3, none⟩) le_M (.int .i64 d))
          rw [← hw23] at HR HM HK HB
          clear hw23
          obtain ⟨⟨qR0, qR1, qR2, qR3⟩, ⟨fR0, fR1, fR2, fR3⟩, zR⟩ := HR.out
          obtain ⟨⟨qM0, qM1, qM2, qM3⟩, ⟨fM0, fM1, fM2, fM3⟩, zM⟩ := HM.out
          obtain ⟨⟨qK0, qK1, qK2, qK3⟩, ⟨fK0, fK1, fK2, fK3⟩, zK⟩ := HK.out
          go_wp2_with fail
          go_at_call 30
          refine (HQ.out _).mono ?_
          rintro e w24 ⟨rfl, hb⟩
          clear qR0 fR0 qR1 fR1 qR2 fR2 qR3 fR3 zR qM0 fM0 qM1 fM1 qM2 fM2 qM3 fM3 zM qK0 fK0 qK1 fK1 qK2 fK2 qK3 fK3 zK
          have HR := Lib.hid (HR.out.below hb)
          have HM := Lib.hid (HM.out.below hb)
          have HK := Lib.hid (HK.out.below hb)
          have HB := Lib.hid (below_after hb HB.out)
          clear hb
          obtain ⟨⟨qR0, qR1, qR2, qR3⟩, ⟨fR0, fR1, fR2, fR3⟩, zR⟩ := HR.out
          obtain ⟨⟨qM0, qM1, qM2, qM3⟩, ⟨fM0, fM1, fM2, fM3⟩, zM⟩ := HM.out
          obtain ⟨⟨qK0, qK1, qK2, qK3⟩, ⟨fK0, fK1, fK2, fK3⟩, zK⟩ := HK.out
          go_wp2_with fail
          clear qR0 fR0 qR1 fR1 qR2 fR2 qR3 fR3 zR qM0 fM0 qM1 fM1 qM2 fM2 qM3 fM3 zM qK0 fK0 qK1 fK1 qK2 fK2 qK3 fK3 zK
          go_roundw
          case rel => exact ⟨i + 1, x0, b, x2, d, by go_num, by omega, HMX2.out, HS2.out, HR.out, HM.out, HB.out⟩
          case measure => simp only [intOf]; omega
      · skip
        have HT : Hid (∀ w, Calls Tryd.prog 29 #[.agg #[.int .i64 a, .int .i64 b, .int .i64 c, .int .i64 d], .agg #[.int .i64 1, .int .i64 1, .int .i64 0, .int .i64 1]] w fun e w' => e = .returned (.agg #[.int .i64 a, .int .i64 (a + b), .int .i64 c, .int .i64 (c + d)]) ∧ Below w.heap.size w w') := fun w => times_R a b c d w HMX.out
        have HS := HW.out
        rw [wm_R hil (HI.out hil)] at HS
        have HQ : Hid (∀ w, Calls Tryd.prog 30 #[.agg #[.int .i64 a, .int .i64 (a + b), .int .i64 c, .int .i64 (c + d)]] w fun e w' => e = .returned (.bool (isMx a (a + b) c (c + d))) ∧ Below w.heap.size w w') := fun w => l01Matrix_any _ _ _ _ w
        clear HI
        obtain ⟨x1, hx1⟩ : ∃ z, a + b = z := ⟨_, rfl⟩
        obtain ⟨x3, hx3⟩ : ∃ z, c + d = z := ⟨_, rfl⟩
        rw [hx1, hx3] at HT HS HQ
        clear hx1 hx3
        cases hmq : isMx a x1 c x3
        · rw [hmq] at HS HQ
          have HS2 : Hid (none = W) := by rw [if_neg (by decide)] at HS; exact HS
          clear HS hmq
          obtain ⟨⟨qR0, qR1, qR2, qR3⟩, ⟨fR0, fR1, fR2, fR3⟩, zR⟩ := HR.out
          obtain ⟨⟨qM0, qM1, qM2, qM3⟩, ⟨fM0, fM1, fM2, fM3⟩, zM⟩ := HM.out
          go_upto_region 6 with fail
          obtain ⟨GK, hGK⟩ : ∃ g, wr.heap.size = g := ⟨_, rfl⟩
          obtain ⟨w21, hw21⟩ : ∃ wx, wx = wr.alloc (.cells #[.int .i64 1, .int .i64 0, .int .i64 1, .int .i64 1] 24) := ⟨_, rfl⟩
          rw [← hw21, hGK]
          have HK : Hid (Bk4 w21 GK 1 0 1 1) := by rw [hw21, ← hGK]; exact bk4_new wr 1 0 1 1 _
          have le_K : w.heap.size ≤ GK := by rw [← hGK]; exact HB.out.size
          have ne_K_R : GK ≠ GR := by have := HR.out.2.2; omega
          have ne_R_K : GR ≠ GK := Ne.symm ne_K_R
          have ne_K_M : GK ≠ GM := by have := HM.out.2.2; omega
          have ne_M_K : GM ≠ GK := Ne.symm ne_K_M
          clear qR0 fR0 qR1 fR1 qR2 fR2 qR3 fR3 zR qM0 fM0 qM1 fM1 qM2 fM2 qM3 fM3 zM
          have HR := Lib.hid (HR.out.below ((Below.refl _ _).alloc (Nat.le_refl _) (.cells #[.int .i64 1, .int .i64 0, .int .i64 1, .int .i64 1] 24)))
          have HM := Lib.hid (HM.out.below ((Below.refl _ _).alloc (Nat.le_refl _) (.cells #[.int .i64 1, .int .i64 0, .int .i64 1, .int .i64 1] 24)))
          have HB := Lib.hid (Below.alloc HB.out HB.out.size (.cells #[.int .i64 1, .int .i64 0, .int .i64 1, .int .i64 1] 24))
          rw [← hw21] at HR HM HB
          clear hw21 hGK
          obtain ⟨⟨qR0, qR1, qR2, qR3⟩, ⟨fR0, fR1, fR2, fR3⟩, zR⟩ := HR.out
          obtain ⟨⟨qM0, qM1, qM2, qM3⟩, ⟨fM0, fM1, fM2, fM3⟩, zM⟩ := HM.out
          obtain ⟨⟨qK0, qK1, qK2, qK3⟩, ⟨fK0, fK1, fK2, fK3⟩, zK⟩ := HK.out
          go_upto_region 8 with fail
          obtain ⟨w22, hw22⟩ : ∃ wx, wx = ((((w21.setCell ⟨GK, 0, none⟩ (.int .i64 1)).setCell ⟨GK, 1, none⟩ (.int .i64 1)).setCell ⟨GK, 2, none⟩ (.int .i64 0)).setCell ⟨GK, 3, none⟩ (.int .i64 1)) := ⟨_, rfl⟩
          rw [← hw22]
          clear qR0 fR0 qR1 fR1 qR2 fR2 qR3 fR3 zR qM0 fM0 qM1 fM1 qM2 fM2 qM3 fM3 zM qK0 fK0 qK1 fK1 qK2 fK2 qK3 fK3 zK
          have HR := Lib.hid ((((HR.out.far ⟨GK, 0, none⟩ (.int .i64 1) (by show GR ≠ GK; exact ne_R_K)).far ⟨GK, 1, none⟩ (.int .i64 1) (by show GR ≠ GK; exact ne_R_K)).far ⟨GK, 2, none⟩ (.int .i64 0) (by show GR ≠ GK; exact ne_R_K)).far ⟨GK, 3, none⟩ (.int .i64 1) (by show GR ≠ GK; exact ne_R_K))
          have HM := Lib.hid ((((HM.out.far ⟨GK, 0, none⟩ (.int .i64 1) (by show GM ≠ GK; exact ne_M_K)).far ⟨GK, 1, none⟩ (.int .i64 1) (by show GM ≠ GK; exact ne_M_K)).far ⟨GK, 2, none⟩ (.int .i64 0) (by show GM ≠ GK; exact ne_M_K)).far ⟨GK, 3, none⟩ (.int .i64 1) (by show GM ≠ GK; exact ne_M_K))
          have HK := Lib.hid ((((HK.out.set0 1).set1 1).set2 0).set3 1)
          have HB := Lib.hid (Below.setCell (Below.setCell (Below.setCell (Below.setCell HB.out (p := ⟨GK, 0, none⟩) le_K (.int .i64 1)) (p := ⟨GK, 1, none⟩) le_K (.int .i64 1)) (p := ⟨GK, 2, none⟩) le_K (.int .i64 0)) (p := ⟨GK, 3, none⟩) le_K (.int .i64 1))
          rw [← hw22] at HR HM HK HB
          clear hw22
          obtain ⟨⟨qR0, qR1, qR2, qR3⟩, ⟨fR0, fR1, fR2, fR3⟩, zR⟩ := HR.out
          obtain ⟨⟨qM0, qM1, qM2, qM3⟩, ⟨fM0, fM1, fM2, fM3⟩, zM⟩ := HM.out
          obtain ⟨⟨qK0, qK1, qK2, qK3⟩, ⟨fK0, fK1, fK2, fK3⟩, zK⟩ := HK.out
          go_wp2_with fail
          go_at_call 29
          refine (HT.out _).mono ?_
          rintro e w23 ⟨rfl, hb⟩
          clear qR0 fR0 qR1 fR1 qR2 fR2 qR3 fR3 zR qM0 fM0 qM1 fM1 qM2 fM2 qM3 fM3 zM qK0 fK0 qK1 fK1 qK2 fK2 qK3 fK3 zK
          have HR := Lib.hid (HR.out.below hb)
          have HM := Lib.hid (HM.out.below hb)
          have HK := Lib.hid (HK.out.below hb)
          have HB := Lib.hid (below_after hb HB.out)
          clear hb
          obtain ⟨⟨qR0, qR1, qR2, qR3⟩, ⟨fR0, fR1, fR2, fR3⟩, zR⟩ := HR.out
          obtain ⟨⟨qM0, qM1, qM2, qM3⟩, ⟨fM0, fM1, fM2, fM3⟩, zM⟩ := HM.out
          obtain ⟨⟨qK0, qK1, qK2, qK3⟩, ⟨fK0, fK1, fK2, fK3⟩, zK⟩ := HK.out
          go_upto_region 9 with fail
          obtain ⟨w24, hw24⟩ : ∃ wx, wx = ((((w23.setCell ⟨GM, 0, none⟩ (.int .i64 a)).setCell ⟨GM, 1, none⟩ (.int .i64 x1)).setCell ⟨GM, 2, none⟩ (.int .i64 c)).setCell ⟨GM, 3, none⟩ (.int .i64 x3)) := ⟨_, rfl⟩
          rw [← hw24]
          clear qR0 fR0 qR1 fR1 qR2 fR2 qR3 fR3 zR qM0 fM0 qM1 fM1 qM2 fM2 qM3 fM3 zM qK0 fK0 qK1 fK1 qK2 fK2 qK3 fK3 zK
          have HR := Lib.hid ((((HR.out.far ⟨GM, 0, none⟩ (.int .i64 a) (by show GR ≠ GM; exact ne_R_M)).far ⟨GM, 1, none⟩ (.int .i64 x1) (by show GR ≠ GM; exact ne_R_M)).far ⟨GM, 2, none⟩ (.int .i64 c) (by show GR ≠ GM; exact ne_R_M)).far ⟨GM, 3, none⟩ (.int .i64 x3) (by show GR ≠ GM; exact ne_R_M))
          have HK := Lib.hid ((((HK.out.far ⟨GM, 0, none⟩ (.int .i64 a) (by show GK ≠ GM; exact ne_K_M)).far ⟨GM, 1, none⟩ (.int .i64 x1) (by show GK ≠ GM; exact ne_K_M)).far ⟨GM, 2, none⟩ (.int .i64 c) (by show GK ≠ GM; exact ne_K_M)).far ⟨GM, 3, none⟩ (.int .i64 x3) (by show GK ≠ GM; exact ne_K_M))
          have HM := Lib.hid ((((HM.out.set0 a).set1 x1).set2 c).set3 x3)
          have HB := Lib.hid (Below.setCell (Below.setCell (Below.setCell (Below.setCell HB.out (p := ⟨GM, 0, none⟩) le_M (.int .i64 a)) (p := ⟨GM, 1, none⟩) le_M (.int .i64 x1)) (p := ⟨GM, 2, none⟩) le_M (.int .i64 c)) (p := ⟨GM, 3, none⟩) le_M (.int .i64 x3))
          rw [← hw24] at HR HM HK HB
          clear hw24
          obtain ⟨⟨qR0, qR1, qR2, qR3⟩, ⟨fR0, fR1, fR2, fR3⟩, zR⟩ := HR.out
          obtain ⟨⟨qM0, qM1, qM2, qM3⟩, ⟨fM0, fM1, fM2, fM3⟩, zM⟩ := HM.out
          obtain ⟨⟨qK0, qK1, qK2, qK3⟩, ⟨fK0, fK1, fK2, fK3⟩, zK⟩ := HK.out
          go_wp2_with fail
          go_at_call 30
          refine (HQ.out _).mono ?_
          rintro e w25 ⟨rfl, hb⟩
          clear qR0 fR0 qR1 fR1 qR2 fR2 qR3 fR3 zR qM0 fM0 qM1 fM1 qM2 fM2 qM3 fM3 zM qK0 fK0 qK1 fK1 qK2 fK2 qK3 fK3 zK
          have HR := Lib.hid (HR.out.below hb)
          have HM := Lib.hid (HM.out.below hb)
          have HK := Lib.hid (HK.out.below hb)
          have HB := Lib.hid (below_after hb HB.out)
          clear hb
          obtain ⟨⟨qR0, qR1, qR2, qR3⟩, ⟨fR0, fR1, fR2, fR3⟩, zR⟩ := HR.out
          obtain ⟨⟨qM0, qM1, qM2, qM3⟩, ⟨fM0, fM1, fM2, fM3⟩, zM⟩ := HM.out
          obtain ⟨⟨qK0, qK1, qK2, qK3⟩, ⟨fK0, fK1, fK2, fK3⟩, zK⟩ := HK.out
          go_wp2_with fail
          refine bodyPost_ret (v := .tuple #[.agg #[.int .i64 0, .int .i64 0, .int .i64 0, .int .i64 0], .bool false]) (by simp (maxDischargeDepth := 8) [results, Tryd.results17, go_sem, *]) rfl ?_
          have hb := HB.out
          exact ⟨by rw [← HS2.out]; rfl, by (repeat' (first | (with_reducible exact Below.refl _ _) | (with_reducible refine Below.alloc ?_ ?_ _) | (with_reducible refine Below.setCell ?_ ?_ _) | (with_reducible refine Below.drew ?_) | (with_reducible refine below_drewN ?_ _) | (with_reducible assumption) | (with_reducible refine below_after (by with_reducible assumption) ?_) | go_size))⟩
        · rw [hmq] at HS HQ
          have HS2 : Hid (wm (l.drop (i + 1)) a x1 c x3 = W) := by rw [if_pos rfl] at HS; exact HS
          have HMX2 := Lib.hid hmq
          clear HS hmq
          obtain ⟨⟨qR0, qR1, qR2, qR3⟩, ⟨fR0, fR1, fR2, fR3⟩, zR⟩ := HR.out
          obtain ⟨⟨qM0, qM1, qM2, qM3⟩, ⟨fM0, fM1, fM2, fM3⟩, zM⟩ := HM.out
          go_upto_region 6 with fail
          obtain ⟨GK, hGK⟩ : ∃ g, wr.heap.size = g := ⟨_, rfl⟩
          obtain ⟨w21, hw21⟩ : ∃ wx, wx = wr.alloc (.cells #[.int .i64 1, .int .i64 0, .int .i64 1, .int .i64 1] 24) := ⟨_, rfl⟩
          rw [← hw21, hGK]
          have HK : Hid (Bk4 w21 GK 1 0 1 1) := by rw [hw21, ← hGK]; exact bk4_new wr 1 0 1 1 _
          have le_K : w.heap.size ≤ GK := by rw [← hGK]; exact HB.out.size
          have ne_K_R : GK ≠ GR := by have := HR.out.2.2; omega
          have ne_R_K : GR ≠ GK := Ne.symm ne_K_R
          have ne_K_M : GK ≠ GM := by have := HM.out.2.2; omega
          have ne_M_K : GM ≠ GK := Ne.symm ne_K_M
          clear qR0 fR0 qR1 fR1 qR2 fR2 qR3 fR3 zR qM0 fM0 qM1 fM1 qM2 fM2 qM3 fM3 zM
          have HR := Lib.hid (HR.out.below ((Below.refl _ _).alloc (Nat.le_refl _) (.cells #[.int .i64 1, .int .i64 0, .int .i64 1, .int .i64 1] 24)))
          have HM := Lib.hid (HM.out.below ((Below.refl _ _).alloc (Nat.le_refl _) (.cells #[.int .i64 1, .int .i64 0, .int .i64 1, .int .i64 1] 24)))
          have HB := Lib.hid (Below.alloc HB.out HB.out.size (.cells #[.int .i64 1, .int .i64 0, .int .i64 1, .int .i64 1] 24))
          rw [← hw21] at HR HM HB
          clear hw21 hGK
          obtain ⟨⟨qR0, qR1, qR2, qR3⟩, ⟨fR0, fR1, fR2, fR3⟩, zR⟩ := HR.out
          obtain ⟨⟨qM0, qM1, qM2, qM3⟩, ⟨fM0, fM1, fM2, fM3⟩, zM⟩ := HM.out
          obtain ⟨⟨qK0, qK1, qK2, qK3⟩, ⟨fK0, fK1, fK2, fK3⟩, zK⟩ := HK.out
          go_upto_region 8 with fail
          obtain ⟨w22, hw22⟩ : ∃ wx, wx = ((((w21.setCell ⟨GK, 0, none⟩ (.int .i64 1)).setCell ⟨GK, 1, none⟩ (.int .i64 1)).setCell ⟨GK, 2, none⟩ (.int .i64 0)).setCell ⟨GK, 3, none⟩ (.int .i64 1)) := ⟨_, rfl⟩
          rw [← hw22]
          clear qR0 fR0 qR1 fR1 qR2 fR2 qR3 fR3 zR qM0 fM0 qM1 fM1 qM2 fM2 qM3 fM3 zM qK0 fK0 qK1 fK1 qK2 fK2 qK3 fK3 zK
          have HR := Lib.hid ((((HR.out.far ⟨GK, 0, none⟩ (.int .i64 1) (by show GR ≠ GK; exact ne_R_K)).far ⟨GK, 1, none⟩ (.int .i64 1) (by show GR ≠ GK; exact ne_R_K)).far ⟨GK, 2, none⟩ (.int .i64 0) (by show GR ≠ GK; exact ne_R_K)).far ⟨GK, 3, none⟩ (.int .i64 1) (by show GR ≠ GK; exact ne_R_K))
          have HM := Lib.hid ((((HM.out.far ⟨GK, 0, none⟩ (.int .i64 1) (by show GM ≠ GK; exact ne_M_K)).far ⟨GK, 1, none⟩ (.int .i64 1) (by show GM ≠ GK; exact ne_M_K)).far ⟨GK, 2, none⟩ (.int .i64 0) (by show GM ≠ GK; exact ne_M_K)).far ⟨GK, 3, none⟩ (.int .i64 1) (by show GM ≠ GK; exact ne_M_K))
          have HK := Lib.hid ((((HK.out.set0 1).set1 1).set2 0).set3 1)
          have HB := Lib.hid (Below.setCell (Below.setCell (Below.setCell (Below.setCell HB.out (p := ⟨GK, 0, none⟩) le_K (.int .i64 1)) (p := ⟨GK, 1, none⟩) le_K (.int .i64 1)) (p := ⟨GK, 2, none⟩) le_K (.int .i64 0)) (p := ⟨GK, 3, none⟩) le_K (.int .i64 1))
          rw [← hw22] at HR HM HK HB
          clear hw22
          obtain ⟨⟨qR0, qR1, qR2, qR3⟩, ⟨fR0, fR1, fR2, fR3⟩, zR⟩ := HR.out
          obtain ⟨⟨qM0, qM1, qM2, qM3⟩, ⟨fM0, fM1, fM2, fM3⟩, zM⟩ := HM.out
          obtain ⟨⟨qK0, qK1, qK2, qK3⟩, ⟨fK0, fK1, fK2, fK3⟩, zK⟩ := HK.out
          go_wp2_with fail
          go_at_call 29
          refine (HT.out _).mono ?_
          rintro e w23 ⟨rfl, hb⟩
          clear qR0 fR0 qR1 fR1 qR2 fR2 qR3 fR3 zR qM0 fM0 qM1 fM1 qM2 fM2 qM3 fM3 zM qK0 fK0 qK1 fK1 qK2 fK2 qK3 fK3 zK
          have HR := Lib.hid (HR.out.below hb)
          have HM := Lib.hid (HM.out.below hb)
          have HK := Lib.hid (HK.out.below hb)
          have HB := Lib.hid (below_after hb HB.out)
          clear hb
          obtain ⟨⟨qR0, qR1, qR2, qR3⟩, ⟨fR0, fR1, fR2, fR3⟩, zR⟩ := HR.out
          obtain ⟨⟨qM0, qM1, qM2, qM3⟩, ⟨fM0, fM1, fM2, fM3⟩, zM⟩ := HM.out
          obtain ⟨⟨qK0, qK1, qK2, qK3⟩, ⟨fK0, fK1, fK2, fK3⟩, zK⟩ := HK.out
          go_upto_region 9 with fail
          obtain ⟨w24, hw24⟩ : ∃ wx, wx = ((((w23.setCell ⟨GM, 0, none⟩ (.int .i64 a)).setCell ⟨GM, 1, none⟩ (.int .i64 x1)).setCell ⟨GM, 2, none⟩ (.int .i64 c)).setCell ⟨GM, 3, none⟩ (.int .i64 x3)) := ⟨_, rfl⟩
          rw [← hw24]
          clear qR0 fR0 qR1 fR1 qR2 fR2 qR3 fR3 zR qM0 fM0 qM1 fM1 qM2 fM2 qM3 fM3 zM qK0 fK0 qK1 fK1 qK2 fK2 qK3 fK3 zK
          have HR := Lib.hid ((((HR.out.far ⟨GM, 0, none⟩ (.int .i64 a) (by show GR ≠ GM; exact ne_R_M)).far ⟨GM, 1, none⟩ (.int .i64 x1) (by show GR ≠ GM; exact ne_R_M)).far ⟨GM, 2, none⟩ (.int .i64 c) (by show GR ≠ GM; exact ne_R_M)).far ⟨GM, 3, none⟩ (.int .i64 x3) (by show GR ≠ GM; exact ne_R_M))
          have HK := Lib.hid ((((HK.out.far ⟨GM, 0, none⟩ (.int .i64 a) (by show GK ≠ GM; exact ne_K_M)).far ⟨GM, 1, none⟩ (.int .i64 x1) (by show GK ≠ GM; exact ne_K_M)).far ⟨GM, 2, none⟩ (.int .i64 c) (by show GK ≠ GM; exact ne_K_M)).far ⟨GM, 3, none⟩ (.int .i64 x3) (by show GK ≠ GM; exact ne_K_M))
          have HM := Lib.hid ((((HM.out.set0 a).set1 x1).set2 c).set3 x3)
          have HB := Lib.hid (Below.setCell (Below.setCell (Below.setCell (Below.setCell HB.out (p := ⟨GM, 0, none⟩) le_M (.int .i64 a)) (p := ⟨GM, 1, none⟩) le_M (.int .i64 x1)) (p := ⟨GM, 2, none⟩) le_M (.int .i64 c)) (p := ⟨GM, 3, none⟩) le_M (.int .i64 x3))
          rw [← hw24] at HR HM HK HB
          clear hw24
          obtain ⟨⟨qR0, qR1, qR2, qR3⟩, ⟨fR0, fR1, fR2, fR3⟩, zR⟩ := HR.out
          obtain ⟨⟨qM0, qM1, qM2, qM3⟩, ⟨fM0, fM1, fM2, fM3⟩, zM⟩ := HM.out
          obtain ⟨⟨qK0, qK1, qK2, qK3⟩, ⟨fK0, fK1, fK2, fK3⟩, zK⟩ := HK.out
          go_wp2_with fail
          go_at_call 30
          refine (HQ.out _).mono ?_
          rintro e w25 ⟨rfl, hb⟩
          clear qR0 fR0 qR1 fR1 qR2 fR2 qR3 fR3 zR qM0 fM0 qM1 fM1 qM2 fM2 qM3 fM3 zM qK0 fK0 qK1 fK1 qK2 fK2 qK3 fK3 zK
          have HR := Lib.hid (HR.out.below hb)
          have HM := Lib.hid (HM.out.below hb)
          have HK := Lib.hid (HK.out.below hb)
          have HB := Lib.hid (below_after hb HB.out)
          clear hb
          obtain ⟨⟨qR0, qR1, qR2, qR3⟩, ⟨fR0, fR1, fR2, fR3⟩, zR⟩ := HR.out
          obtain ⟨⟨qM0, qM1, qM2, qM3⟩, ⟨fM0, fM1, fM2, fM3⟩, zM⟩ := HM.out
          obtain ⟨⟨qK0, qK1, qK2, qK3⟩, ⟨fK0, fK1, fK2, fK3⟩, zK⟩ := HK.out
          go_wp2_with fail
          clear qR0 fR0 qR1 fR1 qR2 fR2 qR3 fR3 zR qM0 fM0 qM1 fM1 qM2 fM2 qM3 fM3 zM qK0 fK0 qK1 fK1 qK2 fK2 qK3 fK3 zK
          go_roundw
          case rel => exact ⟨i + 1, a, x1, c, x3, by go_num, by omega, HMX2.out, HS2.out, HR.out, HM.out, HB.out⟩
          case measure => simp only [intOf]; omega
    · have hlt : decide ((i : Int) < (l.length : Int)) = false := by simp; omega
      have HE : Hid (W = some (a, b, c, d)) := by
        show _ = _
        rw [← HW.out, List.drop_eq_nil_of_le (by omega)]; rfl
      obtain ⟨⟨qR0, qR1, qR2, qR3⟩, ⟨fR0, fR1, fR2, fR3⟩, zR⟩ := HR.out
      obtain ⟨⟨qM0, qM1, qM2, qM3⟩, ⟨fM0, fM1, fM2, fM3⟩, zM⟩ := HM.out
      go_wp2_with fail
      refine bodyPost_ret (v := .tuple #[.agg #[.int .i64 a, .int .i64 b, .int .i64 c, .int .i64 d], .bool true]) (by simp (maxDischargeDepth := 8) [results, Tryd.results17, go_sem, *]) rfl ?_
      have hb := HB.out
      exact ⟨by rw [HE.out]; rfl, by (repeat' (first | (with_reducible exact Below.refl _ _) | (with_reducible refine Below.alloc ?_ ?_ _) | (with_reducible refine Below.setCell ?_ ?_ _) | (with_reducible refine Below.drew ?_) | (with_reducible refine below_drewN ?_ _) | (with_reducible assumption) | (with_reducible refine below_after (by with_reducible assumption) ?_) | go_size))⟩

end Go.Proofs.YtohnmogejidpdaaDoor
