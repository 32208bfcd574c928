/-
  Area, border number, inner number and count of a multiple in the program and in the model (own work).
-/
import Derived.Test.YtkfoelkkllpmdaaPgM
namespace Go.Proofs.Ytkfoelkkllpmdaa
open Go.ChangeShapes Go.WideShapes Go.ChangeAt Go.RowKit
set_option linter.unusedVariables false
set_option maxRecDepth 100000
set_option linter.unusedSimpArgs false
set_option maxRecDepth 100000

def onP (ps : List (Int × Int)) (v : Int) : Int := if isP ps = true then v else 0
theorem onP_yes {ps : List (Int × Int)} (h : isP ps = true) (v : Int) : onP ps v = v := if_pos h
theorem onP_no {ps : List (Int × Int)} (h : isP ps = false) (v : Int) : onP ps v = 0 := if_neg (by rw [h]; decide)
def innL (ps : List (Int × Int)) : Int := (areaL ps - bordL ps + 2).tdiv 2
/-- What a polygon's list gives a walk. -/
def LP (W : World) (a : Option Addr) (n : Nat) (ps : List (Int × Int)) : Prop := ∃ g, a = some ⟨g, 0, none⟩ ∧ ps.length = n ∧ 3 ≤ n ∧ n ≤ 12 ∧ g < W.heap.size ∧ PtCells W g 0 ps ∧ inC ps = true
theorem LV.poly {W : World} {a : Option Addr} {n : Nat} {ps : List (Int × Int)} (h : LV W a n ps) (hp : isP ps = true) : LP W a n ps := by
  obtain ⟨h3, h12, hi, _⟩ := isP_iff.1 hp
  rw [h.1] at h3 h12
  obtain ⟨g, e, hg, hc⟩ := h.2.2 (by omega)
  exact ⟨g, e, h.1, h3, h12, hg, hc, hi⟩
theorem LP.below {W W' : World} {a : Option Addr} {n : Nat} {ps : List (Int × Int)} (h : LP W a n ps) (hb : Below W.heap.size W W') : LP W' a n ps := by
  obtain ⟨g, e, h1, h2, h3, h4, h5, h6⟩ := h
  exact ⟨g, e, h1, h2, h3, Nat.lt_of_lt_of_le h4 hb.size, ptCells_kept h5 (hb.block g h4), h6⟩
theorem areaL_bd {ps : List (Int × Int)} (h : inC ps = true) (h0 : 0 < ps.length) (hm : ps.length ≤ 12) : -24000000 ≤ areaL ps ∧ areaL ps ≤ 24000000 := by
  have := sg_bd (f := dvL ps) (A := 2000000) ps.length (fun j _ => dvL_bd h h0 j)
  unfold areaL; omega
theorem bordL_bd {ps : List (Int × Int)} (h : inC ps = true) (h0 : 0 < ps.length) (hm : ps.length ≤ 12) : -24000 ≤ bordL ps ∧ bordL ps ≤ 24000 := by
  have := sg_bd (f := gcL ps) (A := 2000) ps.length (fun j _ => by have := gcL_bd h h0 j; omega)
  unfold bordL; omega
theorem LP.bds {W : World} {a : Option Addr} {n : Nat} {ps : List (Int × Int)} (h : LP W a n ps) : (-24000000 ≤ areaL ps ∧ areaL ps ≤ 24000000) ∧ (-24000 ≤ bordL ps ∧ bordL ps ≤ 24000) := by
  obtain ⟨g, e, h1, h2, h3, h4, h5, h6⟩ := h
  exact ⟨areaL_bd h6 (by omega) (by omega), bordL_bd h6 (by omega) (by omega)⟩
theorem areaWithin_lp (a : Option Addr) (n cap : Nat) (ps : List (Int × Int)) (w : World) (h : LP w a n ps) : Calls Try.prog 66 #[.slice a n cap] w fun e w' => e = .returned (.int .i64 (areaL ps)) ∧ Below w.heap.size w w' := by
  obtain ⟨g, rfl, h1, h2, h3, h4, h5, h6⟩ := h
  exact areaWithin_some ps n g cap w h1 h2 h3 h4 h5 h6
theorem borderOf_lp (a : Option Addr) (n cap : Nat) (ps : List (Int × Int)) (w : World) (h : LP w a n ps) : Calls Try.prog 68 #[.slice a n cap] w fun e w' => e = .returned (.int .i64 (bordL ps)) ∧ Below w.heap.size w w' := by
  obtain ⟨g, rfl, h1, h2, h3, h4, h5, h6⟩ := h
  exact borderOf_some ps n g cap w h1 h2 h3 h4 h5 h6
theorem l09Area_lp (a : Option Addr) (n cap : Nat) (ps : List (Int × Int)) (w : World) (h : LP w a n ps) : Calls Try.prog 64 #[.slice a n cap] w fun e w' => e = .returned (.int .i64 (areaL ps)) ∧ Below w.heap.size w w' := by
  obtain ⟨g, rfl, h1, h2, h3, h4, h5, h6⟩ := h
  exact l09Area_some ps n g cap w h1 h2 h3 h4 h5 h6
theorem l09Border_lp (a : Option Addr) (n cap : Nat) (ps : List (Int × Int)) (w : World) (h : LP w a n ps) : Calls Try.prog 67 #[.slice a n cap] w fun e w' => e = .returned (.int .i64 (bordL ps)) ∧ Below w.heap.size w w' := by
  obtain ⟨g, rfl, h1, h2, h3, h4, h5, h6⟩ := h
  exact l09Border_some ps n g cap w h1 h2 h3 h4 h5 h6
theorem innerOf_lp (a : Option Addr) (n cap : Nat) (ps : List (Int × Int)) (w : World) (h : LP w a n ps) : Calls Try.prog 70 #[.slice a n cap] w fun e w' => e = .returned (.int .i64 (innL ps)) ∧ Below w.heap.size w w' := by
  obtain ⟨⟨a1, a2⟩, b1, b2⟩ := h.bds
  have HA : Hid (∀ w1, Below w.heap.size w w1 → Calls Try.prog 66 #[.slice a n cap] w1 fun e w' => e = .returned (.int .i64 (areaL ps)) ∧ Below w1.heap.size w1 w') := fun w1 hb => areaWithin_lp a n cap ps w1 (h.below hb)
  have HB : Hid (∀ w1, Below w.heap.size w w1 → Calls Try.prog 68 #[.slice a n cap] w1 fun e w' => e = .returned (.int .i64 (bordL ps)) ∧ Below w1.heap.size w1 w') := fun w1 hb => borderOf_lp a n cap ps w1 (h.below hb)
  have hd : innL ps = (areaL ps - bordL ps + 2).tdiv 2 := rfl
  rw [hd]
  obtain ⟨A, hA⟩ : ∃ A, areaL ps = A := ⟨_, rfl⟩
  obtain ⟨B, hB⟩ : ∃ B, bordL ps = B := ⟨_, rfl⟩
  rw [hA] at a1 a2 HA ⊢
  rw [hB] at b1 b2 HB ⊢
  have q1 : IntKind.i64.wrap (A - B) = A - B := by rw [IntKind.wrap_i64]; omega
  have q2 : IntKind.i64.wrap (A - B + 2) = A - B + 2 := by rw [IntKind.wrap_i64]; omega
  have q3 : IntKind.i64.wrap ((A - B + 2).tdiv 2) = (A - B + 2).tdiv 2 := by
    rw [IntKind.wrap_i64]
    have : (A - B + 2).tdiv 2 = (if 0 ≤ A - B + 2 then (A - B + 2) / 2 else -((-(A - B + 2)) / 2)) := by
      split
      · exact Int.tdiv_eq_ediv_of_nonneg (by omega)
      · rw [← Int.neg_neg (A - B + 2), Int.neg_tdiv, Int.tdiv_eq_ediv_of_nonneg (by omega), Int.neg_neg]
    rw [this]
    split <;> omega
  clear h hd hA hB
  go_enter Try.func70, Try.ntmps70
  go_wp2_with (first | (go_at_call 66; refine (HA.out _ (Below.refl _ _)).mono ?_; rintro e w1 ⟨rfl, hb⟩) | (go_at_call 68; refine (HB.out _ hb).mono ?_; rintro e w2 ⟨rfl, hb2⟩))
  go_ret
  exact ⟨rfl, below_after hb2 hb⟩
theorem l09Inner_lp (a : Option Addr) (n cap : Nat) (ps : List (Int × Int)) (w : World) (h : LP w a n ps) : Calls Try.prog 69 #[.slice a n cap] w fun e w' => e = .returned (.int .i64 (innL ps)) ∧ Below w.heap.size w w' := by
  obtain ⟨⟨a1, a2⟩, b1, b2⟩ := h.bds
  have HA : Hid (∀ w1, Below w.heap.size w w1 → Calls Try.prog 64 #[.slice a n cap] w1 fun e w' => e = .returned (.int .i64 (areaL ps)) ∧ Below w1.heap.size w1 w') := fun w1 hb => l09Area_lp a n cap ps w1 (h.below hb)
  have HB : Hid (∀ w1, Below w.heap.size w w1 → Calls Try.prog 67 #[.slice a n cap] w1 fun e w' => e = .returned (.int .i64 (bordL ps)) ∧ Below w1.heap.size w1 w') := fun w1 hb => l09Border_lp a n cap ps w1 (h.below hb)
  have hd : innL ps = (areaL ps - bordL ps + 2).tdiv 2 := rfl
  rw [hd]
  obtain ⟨A, hA⟩ : ∃ A, areaL ps = A := ⟨_, rfl⟩
  obtain ⟨B, hB⟩ : ∃ B, bordL ps = B := ⟨_, rfl⟩
  rw [hA] at a1 a2 HA ⊢
  rw [hB] at b1 b2 HB ⊢
  have q1 : IntKind.i64.wrap (A - B) = A - B := by rw [IntKind.wrap_i64]; omega
  have q2 : IntKind.i64.wrap (A - B + 2) = A - B + 2 := by rw [IntKind.wrap_i64]; omega
  have q3 : IntKind.i64.wrap ((A - B + 2).tdiv 2) = (A - B + 2).tdiv 2 := by
    rw [IntKind.wrap_i64]
    have : (A - B + 2).tdiv 2 = (if 0 ≤ A - B + 2 then (A - B + 2) / 2 else -((-(A - B + 2)) / 2)) := by
      split
      · exact Int.tdiv_eq_ediv_of_nonneg (by omega)
      · rw [← Int.neg_neg (A - B + 2), Int.neg_tdiv, Int.tdiv_eq_ediv_of_nonneg (by omega), Int.neg_neg]
    rw [this]
    split <;> omega
  clear h hd hA hB
  go_enter Try.func69, Try.ntmps69
  go_wp2_with (first | (go_at_call 64; refine (HA.out _ (Below.refl _ _)).mono ?_; rintro e w1 ⟨rfl, hb⟩) | (go_at_call 67; refine (HB.out _ hb).mono ?_; rintro e w2 ⟨rfl, hb2⟩))
  go_ret
  exact ⟨rfl, below_after hb2 hb⟩
theorem impl_AreaOfPolygon_any (a : Option Addr) (n cap : Nat) (ps : List (Int × Int)) (w : World) (h : LV w a n ps) : Calls Try.prog 29 #[.slice a n cap] w fun e w' => e = .returned (.tuple #[.int .i64 (onP ps (areaL ps)), .int .i64 (cdP ps)]) ∧ Below w.heap.size w w' := by
  have HI := Lib.hid (fun w1 (hb : Below w.heap.size w w1) => impl_IsPolygon_any a n cap ps w1 (h.below hb))
  cases hp : isP ps
  · rw [cdP_no hp, onP_no hp]
    rw [hp] at HI
    have HN : Hid (∀ w1, Below w.heap.size w w1 → Calls Try.prog 65 #[.slice a n cap, .func (.func 66) #[] #[]] w1 fun e w' => e = .returned (.tuple #[.int .i64 0, .int .i64 1]) ∧ Below w1.heap.size w1 w') := by
      intro w1 hb0
      go_enter Try.func65, Try.ntmps65
      go_wp2_with (go_at_call 20; refine (HI.out _ hb0).mono ?_; rintro e w2 ⟨rfl, hb⟩)
      refine bodyPost_ret (v := .tuple #[.int .i64 0, .int .i64 1]) (by simp (maxDischargeDepth := 8) [results, Try.results65, go_sem, *]) rfl ?_
      exact ⟨rfl, hb⟩
    clear h hp HI
    go_enter Try.func29, Try.ntmps29
    go_wp2_with (go_at_call 65; refine (HN.out _ (Below.refl _ _)).mono ?_; rintro e w2 ⟨rfl, hb⟩)
    refine bodyPost_ret (v := .tuple #[.int .i64 0, .int .i64 1]) (by simp (maxDischargeDepth := 8) [results, Try.results29, go_sem, *]) rfl ?_
    exact ⟨rfl, hb⟩
  · rw [cdP_yes hp, onP_yes hp]
    rw [hp] at HI
    have HL := Lib.hid (h.poly hp)
    have HF : Hid (∀ w1, Below w.heap.size w w1 → Calls Try.prog 66 #[.slice a n cap] w1 fun e w' => e = .returned (.int .i64 (areaL ps)) ∧ Below w1.heap.size w1 w') := fun w1 hb => areaWithin_lp a n cap ps w1 (HL.out.below hb)
    obtain ⟨V, hV⟩ : ∃ V, areaL ps = V := ⟨_, rfl⟩
    rw [hV] at HF ⊢
    have HN : Hid (∀ w1, Below w.heap.size w w1 → Calls Try.prog 65 #[.slice a n cap, .func (.func 66) #[] #[]] w1 fun e w' => e = .returned (.tuple #[.int .i64 V, .int .i64 0]) ∧ Below w1.heap.size w1 w') := by
      intro w1 hb0
      clear h hp hV
      go_enter Try.func65, Try.ntmps65
      go_wp2_with (first | (go_at_call 20; refine (HI.out _ hb0).mono ?_; rintro e w2 ⟨rfl, hb⟩) | (go_at_call 66; refine (HF.out _ (below_after hb hb0)).mono ?_; rintro e w3 ⟨rfl, hb3⟩))
      refine bodyPost_ret (v := .tuple #[.int .i64 V, .int .i64 0]) (by simp (maxDischargeDepth := 8) [results, Try.results65, go_sem, *]) rfl ?_
      exact ⟨rfl, below_after hb3 hb⟩
    clear h hp HI hV
    go_enter Try.func29, Try.ntmps29
    go_wp2_with (go_at_call 65; refine (HN.out _ (Below.refl _ _)).mono ?_; rintro e w2 ⟨rfl, hb⟩)
    refine bodyPost_ret (v := .tuple #[.int .i64 V, .int .i64 0]) (by simp (maxDischargeDepth := 8) [results, Try.results29, go_sem, *]) rfl ?_
    exact ⟨rfl, hb⟩
theorem spec_AreaOfPolygon_any (a : Option Addr) (n cap : Nat) (ps : List (Int × Int)) (w : World) (h : LV w a n ps) : Calls Try.prog 28 #[.slice a n cap] w fun e w' => e = .returned (.tuple #[.int .i64 (onP ps (areaL ps)), .int .i64 (cdP ps)]) ∧ Below w.heap.size w w' := by
  have HLV := Lib.hid h
  have HCO : Hid (∀ t, Calls Try.prog 61 #[.slice (some ⟨w.heap.size, 0, none⟩) 1 1] (w.alloc (.cells #[.slice a n cap] t)) fun e w' => e = .returned (.int .i64 (cdP ps)) ∧ Below (w.alloc (.cells #[.slice a n cap] t)).heap.size (w.alloc (.cells #[.slice a n cap] t)) w') :=
    fun t => l09Code_one a n cap w.heap.size 1 ps _ (HLV.out.below (by (repeat' (first | (with_reducible exact Below.refl _ _) | (with_reducible refine Below.alloc ?_ ?_ _) | (with_reducible refine Below.setCell ?_ ?_ _) | (with_reducible refine Below.drew ?_) | (with_reducible refine below_drewN ?_ _) | (with_reducible assumption) | (with_reducible refine below_after (by with_reducible assumption) ?_) | go_size)))) (by simp) (by go_cell)
  cases hp : isP ps
  · rw [cdP_no hp, onP_no hp]
    rw [cdP_no hp] at HCO
    clear h hp
    go_enter Try.func28, Try.ntmps28
    go_wp2_with (go_at_call 61; refine (HCO.out _).mono ?_; rintro e w2 ⟨rfl, hb⟩)
    refine bodyPost_ret (v := .tuple #[.int .i64 0, .int .i64 1]) (by simp (maxDischargeDepth := 8) [results, Try.results28, go_sem, *]) rfl ?_
    exact ⟨rfl, by (repeat' (first | (with_reducible exact Below.refl _ _) | (with_reducible refine Below.alloc ?_ ?_ _) | (with_reducible refine Below.setCell ?_ ?_ _) | (with_reducible refine Below.drew ?_) | (with_reducible refine below_drewN ?_ _) | (with_reducible assumption) | (with_reducible refine below_after (by with_reducible assumption) ?_) | go_size))⟩
  · rw [cdP_yes hp, onP_yes hp]
    rw [cdP_yes hp] at HCO
    have HL := Lib.hid (h.poly hp)
    have HF : Hid (∀ w1, Below w.heap.size w w1 → Calls Try.prog 64 #[.slice a n cap] w1 fun e w' => e = .returned (.int .i64 (areaL ps)) ∧ Below w1.heap.size w1 w') := fun w1 hb => l09Area_lp a n cap ps w1 (HL.out.below hb)
    obtain ⟨V, hV⟩ : ∃ V, areaL ps = V := ⟨_, rfl⟩
    rw [hV] at HF ⊢
    clear h hp hV
    go_enter Try.func28, Try.ntmps28
    go_wp2_with (first | (go_at_call 61; refine (HCO.out _).mono ?_; rintro e w2 ⟨rfl, hb⟩; have hb0 : Below w.heap.size w w2 := (by (repeat' (first | (with_reducible exact Below.refl _ _) | (with_reducible refine Below.alloc ?_ ?_ _) | (with_reducible refine Below.setCell ?_ ?_ _) | (with_reducible refine Below.drew ?_) | (with_reducible refine below_drewN ?_ _) | (with_reducible assumption) | (with_reducible refine below_after (by with_reducible assumption) ?_) | go_size)))) | (go_at_call 64; refine (HF.out _ hb0).mono ?_; rintro e w3 ⟨rfl, hb3⟩))
    refine bodyPost_ret (v := .tuple #[.int .i64 V, .int .i64 0]) (by simp (maxDischargeDepth := 8) [results, Try.results28, go_sem, *]) rfl ?_
    exact ⟨rfl, below_after hb3 hb0⟩
theorem impl_BorderNumber_any (a : Option Addr) (n cap : Nat) (ps : List (Int × Int)) (w : World) (h : LV w a n ps) : Calls Try.prog 31 #[.slice a n cap] w fun e w' => e = .returned (.tuple #[.int .i64 (onP ps (bordL ps)), .int .i64 (cdP ps)]) ∧ Below w.heap.size w w' := by
  have HI := Lib.hid (fun w1 (hb : Below w.heap.size w w1) => impl_IsPolygon_any a n cap ps w1 (h.below hb))
  cases hp : isP ps
  · rw [cdP_no hp, onP_no hp]
    rw [hp] at HI
    have HN : Hid (∀ w1, Below w.heap.size w w1 → Calls Try.prog 65 #[.slice a n cap, .func (.func 68) #[] #[]] w1 fun e w' => e = .returned (.tuple #[.int .i64 0, .int .i64 1]) ∧ Below w1.heap.size w1 w') := by
      intro w1 hb0
      go_enter Try.func65, Try.ntmps65
      go_wp2_with (go_at_call 20; refine (HI.out _ hb0).mono ?_; rintro e w2 ⟨rfl, hb⟩)
      refine bodyPost_ret (v := .tuple #[.int .i64 0, .int .i64 1]) (by simp (maxDischargeDepth := 8) [results, Try.results65, go_sem, *]) rfl ?_
      exact ⟨rfl, hb⟩
    clear h hp HI
    go_enter Try.func31, Try.ntmps31
    go_wp2_with (go_at_call 65; refine (HN.out _ (Below.refl _ _)).mono ?_; rintro e w2 ⟨rfl, hb⟩)
    refine bodyPost_ret (v := .tuple #[.int .i64 0, .int .i64 1]) (by simp (maxDischargeDepth := 8) [results, Try.results31, go_sem, *]) rfl ?_
    exact ⟨rfl, hb⟩
  · rw [cdP_yes hp, onP_yes hp]
    rw [hp] at HI
    have HL := Lib.hid (h.poly hp)
    have HF : Hid (∀ w1, Below w.heap.size w w1 → Calls Try.prog 68 #[.slice a n cap] w1 fun e w' => e = .returned (.int .i64 (bordL ps)) ∧ Below w1.heap.size w1 w') := fun w1 hb => borderOf_lp a n cap ps w1 (HL.out.below hb)
    obtain ⟨V, hV⟩ : ∃ V, bordL ps = V := ⟨_, rfl⟩
    rw [hV] at HF ⊢
    have HN : Hid (∀ w1, Below w.heap.size w w1 → Calls Try.prog 65 #[.slice a n cap, .func (.func 68) #[] #[]] w1 fun e w' => e = .returned (.tuple #[.int .i64 V, .int .i64 0]) ∧ Below w1.heap.size w1 w') := by
      intro w1 hb0
      clear h hp hV
      go_enter Try.func65, Try.ntmps65
      go_wp2_with (first | (go_at_call 20; refine (HI.out _ hb0).mono ?_; rintro e w2 ⟨rfl, hb⟩) | (go_at_call 68; refine (HF.out _ (below_after hb hb0)).mono ?_; rintro e w3 ⟨rfl, hb3⟩))
      refine bodyPost_ret (v := .tuple #[.int .i64 V, .int .i64 0]) (by simp (maxDischargeDepth := 8) [results, Try.results65, go_sem, *]) rfl ?_
      exact ⟨rfl, below_after hb3 hb⟩
    clear h hp HI hV
    go_enter Try.func31, Try.ntmps31
    go_wp2_with (go_at_call 65; refine (HN.out _ (Below.refl _ _)).mono ?_; rintro e w2 ⟨rfl, hb⟩)
    refine bodyPost_ret (v := .tuple #[.int .i64 V, .int .i64 0]) (by simp (maxDischargeDepth := 8) [results, Try.results31, go_sem, *]) rfl ?_
    exact ⟨rfl, hb⟩
theorem spec_BorderNumber_any (a : Option Addr) (n cap : Nat) (ps : List (Int × Int)) (w : World) (h : LV w a n ps) : Calls Try.prog 30 #[.slice a n cap] w fun e w' => e = .returned (.tuple #[.int .i64 (onP ps (bordL ps)), .int .i64 (cdP ps)]) ∧ Below w.heap.size w w' := by
  have HLV := Lib.hid h
  have HCO : Hid (∀ t, Calls Try.prog 61 #[.slice (some ⟨w.heap.size, 0, none⟩) 1 1] (w.alloc (.cells #[.slice a n cap] t)) fun e w' => e = .returned (.int .i64 (cdP ps)) ∧ Below (w.alloc (.cells #[.slice a n cap] t)).heap.size (w.alloc (.cells #[.slice a n cap] t)) w') :=
    fun t => l09Code_one a n cap w.heap.size 1 ps _ (HLV.out.below (by (repeat' (first | (with_reducible exact Below.refl _ _) | (with_reducible refine Below.alloc ?_ ?_ _) | (with_reducible refine Below.setCell ?_ ?_ _) | (with_reducible refine Below.drew ?_) | (with_reducible refine below_drewN ?_ _) | (with_reducible assumption) | (with_reducible refine below_after (by with_reducible assumption) ?_) | go_size)))) (by simp) (by go_cell)
  cases hp : isP ps
  · rw [cdP_no hp, onP_no hp]
    rw [cdP_no hp] at HCO
    clear h hp
    go_enter Try.func30, Try.ntmps30
    go_wp2_with (go_at_call 61; refine (HCO.out _).mono ?_; rintro e w2 ⟨rfl, hb⟩)
    refine bodyPost_ret (v := .tuple #[.int .i64 0, .int .i64 1]) (by simp (maxDischargeDepth := 8) [results, Try.results30, go_sem, *]) rfl ?_
    exact ⟨rfl, by (repeat' (first | (with_reducible exact Below.refl _ _) | (with_reducible refine Below.alloc ?_ ?_ _) | (with_reducible refine Below.setCell ?_ ?_ _) | (with_reducible refine Below.drew ?_) | (with_reducible refine below_drewN ?_ _) | (with_reducible assumption) | (with_reducible refine below_after (by with_reducible assumption) ?_) | go_size))⟩
  · rw [cdP_yes hp, onP_yes hp]
    rw [cdP_yes hp] at HCO
    have HL := Lib.hid (h.poly hp)
    have HF : Hid (∀ w1, Below w.heap.size w w1 → Calls Try.prog 67 #[.slice a n cap] w1 fun e w' => e = .returned (.int .i64 (bordL ps)) ∧ Below w1.heap.size w1 w') := fun w1 hb => l09Border_lp a n cap ps w1 (HL.out.below hb)
    obtain ⟨V, hV⟩ : ∃ V, bordL ps = V := ⟨_, rfl⟩
    rw [hV] at HF ⊢
    clear h hp hV
    go_enter Try.func30, Try.ntmps30
    go_wp2_with (first | (go_at_call 61; refine (HCO.out _).mono ?_; rintro e w2 ⟨rfl, hb⟩; have hb0 : Below w.heap.size w w2 := (by (repeat' (first | (with_reducible exact Below.refl _ _) | (with_reducible refine Below.alloc ?_ ?_ _) | (with_reducible refine Below.setCell ?_ ?_ _) | (with_reducible refine Below.drew ?_) | (with_reducible refine below_drewN ?_ _) | (with_reducible assumption) | (with_reducible refine below_after (by with_reducible assumption) ?_) | go_size)))) | (go_at_call 67; refine (HF.out _ hb0).mono ?_; rintro e w3 ⟨rfl, hb3⟩))
    refine bodyPost_ret (v := .tuple #[.int .i64 V, .int .i64 0]) (by simp (maxDischargeDepth := 8) [results, Try.results30, go_sem, *]) rfl ?_
    exact ⟨rfl, below_after hb3 hb0⟩
theorem impl_InnerNumber_any (a : Option Addr) (n cap : Nat) (ps : List (Int × Int)) (w : World) (h : LV w a n ps) : Calls Try.prog 33 #[.slice a n cap] w fun e w' => e = .returned (.tuple #[.int .i64 (onP ps (innL ps)), .int .i64 (cdP ps)]) ∧ Below w.heap.size w w' := by
  have HI := Lib.hid (fun w1 (hb : Below w.heap.size w w1) => impl_IsPolygon_any a n cap ps w1 (h.below hb))
  cases hp : isP ps
  · rw [cdP_no hp, onP_no hp]
    rw [hp] at HI
    have HN : Hid (∀ w1, Below w.heap.size w w1 → Calls Try.prog 65 #[.slice a n cap, .func (.func 70) #[] #[]] w1 fun e w' => e = .returned (.tuple #[.int .i64 0, .int .i64 1]) ∧ Below w1.heap.size w1 w') := by
      intro w1 hb0
      go_enter Try.func65, Try.ntmps65
      go_wp2_with (go_at_call 20; refine (HI.out _ hb0).mono ?_; rintro e w2 ⟨rfl, hb⟩)
      refine bodyPost_ret (v := .tuple #[.int .i64 0, .int .i64 1]) (by simp (maxDischargeDepth := 8) [results, Try.results65, go_sem, *]) rfl ?_
      exact ⟨rfl, hb⟩
    clear h hp HI
    go_enter Try.func33, Try.ntmps33
    go_wp2_with (go_at_call 65; refine (HN.out _ (Below.refl _ _)).mono ?_; rintro e w2 ⟨rfl, hb⟩)
    refine bodyPost_ret (v := .tuple #[.int .i64 0, .int .i64 1]) (by simp (maxDischargeDepth := 8) [results, Try.results33, go_sem, *]) rfl ?_
    exact ⟨rfl, hb⟩
  · rw [cdP_yes hp, onP_yes hp]
    rw [hp] at HI
    have HL := Lib.hid (h.poly hp)
    have HF : Hid (∀ w1, Below w.heap.size w w1 → Calls Try.prog 70 #[.slice a n cap] w1 fun e w' => e = .returned (.int .i64 (innL ps)) ∧ Below w1.heap.size w1 w') := fun w1 hb => innerOf_lp a n cap ps w1 (HL.out.below hb)
    obtain ⟨V, hV⟩ : ∃ V, innL ps = V := ⟨_, rfl⟩
    rw [hV] at HF ⊢
    have HN : Hid (∀ w1, Below w.heap.size w w1 → Calls Try.prog 65 #[.slice a n cap, .func (.func 70) #[] #[]] w1 fun e w' => e = .returned (.tuple #[.int .i64 V, .int .i64 0]) ∧ Below w1.heap.size w1 w') := by
      intro w1 hb0
      clear h hp hV
      go_enter Try.func65, Try.ntmps65
      go_wp2_with (first | (go_at_call 20; refine (HI.out _ hb0).mono ?_; rintro e w2 ⟨rfl, hb⟩) | (go_at_call 70; refine (HF.out _ (below_after hb hb0)).mono ?_; rintro e w3 ⟨rfl, hb3⟩))
      refine bodyPost_ret (v := .tuple #[.int .i64 V, .int .i64 0]) (by simp (maxDischargeDepth := 8) [results, Try.results65, go_sem, *]) rfl ?_
      exact ⟨rfl, below_after hb3 hb⟩
    clear h hp HI hV
    go_enter Try.func33, Try.ntmps33
    go_wp2_with (go_at_call 65; refine (HN.out _ (Below.refl _ _)).mono ?_; rintro e w2 ⟨rfl, hb⟩)
    refine bodyPost_ret (v := .tuple #[.int .i64 V, .int .i64 0]) (by simp (maxDischargeDepth := 8) [results, Try.results33, go_sem, *]) rfl ?_
    exact ⟨rfl, hb⟩
theorem spec_InnerNumber_any (a : Option Addr) (n cap : Nat) (ps : List (Int × Int)) (w : World) (h : LV w a n ps) : Calls Try.prog 32 #[.slice a n cap] w fun e w' => e = .returned (.tuple #[.int .i64 (onP ps (innL ps)), .int .i64 (cdP ps)]) ∧ Below w.heap.size w w' := by
  have HLV := Lib.hid h
  have HCO : Hid (∀ t, Calls Try.prog 61 #[.slice (some ⟨w.heap.size, 0, none⟩) 1 1] (w.alloc (.cells #[.slice a n cap] t)) fun e w' => e = .returned (.int .i64 (cdP ps)) ∧ Below (w.alloc (.cells #[.slice a n cap] t)).heap.size (w.alloc (.cells #[.slice a n cap] t)) w') :=
    fun t => l09Code_one a n cap w.heap.size 1 ps _ (HLV.out.below (by (repeat' (first | (with_reducible exact Below.refl _ _) | (with_reducible refine Below.alloc ?_ ?_ _) | (with_reducible refine Below.setCell ?_ ?_ _) | (with_reducible refine Below.drew ?_) | (with_reducible refine below_drewN ?_ _) | (with_reducible assumption) | (with_reducible refine below_after (by with_reducible assumption) ?_) | go_size)))) (by simp) (by go_cell)
  cases hp : isP ps
  · rw [cdP_no hp, onP_no hp]
    rw [cdP_no hp] at HCO
    clear h hp
    go_enter Try.func32, Try.ntmps32
    go_wp2_with (go_at_call 61; refine (HCO.out _).mono ?_; rintro e w2 ⟨rfl, hb⟩)
    refine bodyPost_ret (v := .tuple #[.int .i64 0, .int .i64 1]) (by simp (maxDischargeDepth := 8) [results, Try.results32, go_sem, *]) rfl ?_
    exact ⟨rfl, by (repeat' (first | (with_reducible exact Below.refl _ _) | (with_reducible refine Below.alloc ?_ ?_ _) | (with_reducible refine Below.setCell ?_ ?_ _) | (with_reducible refine Below.drew ?_) | (with_reducible refine below_drewN ?_ _) | (with_reducible assumption) | (with_reducible refine below_after (by with_reducible assumption) ?_) | go_size))⟩
  · rw [cdP_yes hp, onP_yes hp]
    rw [cdP_yes hp] at HCO
    have HL := Lib.hid (h.poly hp)
    have HF : Hid (∀ w1, Below w.heap.size w w1 → Calls Try.prog 69 #[.slice a n cap] w1 fun e w' => e = .returned (.int .i64 (innL ps)) ∧ Below w1.heap.size w1 w') := fun w1 hb => l09Inner_lp a n cap ps w1 (HL.out.below hb)
    obtain ⟨V, hV⟩ : ∃ V, innL ps = V := ⟨_, rfl⟩
    rw [hV] at HF ⊢
    clear h hp hV
    go_enter Try.func32, Try.ntmps32
    go_wp2_with (first | (go_at_call 61; refine (HCO.out _).mono ?_; rintro e w2 ⟨rfl, hb⟩; have hb0 : Below w.heap.size w w2 := (by (repeat' (first | (with_reducible exact Below.refl _ _) | (with_reducible refine Below.alloc ?_ ?_ _) | (with_reducible refine Below.setCell ?_ ?_ _) | (with_reducible refine Below.drew ?_) | (with_reducible refine below_drewN ?_ _) | (with_reducible assumption) | (with_reducible refine below_after (by with_reducible assumption) ?_) | go_size)))) | (go_at_call 69; refine (HF.out _ hb0).mono ?_; rintro e w3 ⟨rfl, hb3⟩))
    refine bodyPost_ret (v := .tuple #[.int .i64 V, .int .i64 0]) (by simp (maxDischargeDepth := 8) [results, Try.results32, go_sem, *]) rfl ?_
    exact ⟨rfl, below_after hb3 hb0⟩
def cmN (ps : List (Int × Int)) (k : Int) : Int := (k * k * areaL ps + k * bordL ps + 2).tdiv 2
def cmV (ps : List (Int × Int)) (k : Int) : Int := if isP ps = true then (if inB k 0 1000 = true then cmN ps k else 0) else 0
def cmC (ps : List (Int × Int)) (k : Int) : Int := if isP ps = true then (if inB k 0 1000 = true then 0 else 2) else 1
theorem cm_no {ps : List (Int × Int)} {k : Int} (h : isP ps = false) : cmV ps k = 0 ∧ cmC ps k = 1 := by unfold cmV cmC; rw [h]; exact ⟨rfl, rfl⟩
theorem cm_range {ps : List (Int × Int)} {k : Int} (h : isP ps = true) (hk : inB k 0 1000 = false) : cmV ps k = 0 ∧ cmC ps k = 2 := by unfold cmV cmC; rw [h, hk]; exact ⟨rfl, rfl⟩
theorem cm_yes {ps : List (Int × Int)} {k : Int} (h : isP ps = true) (hk : inB k 0 1000 = true) : cmV ps k = cmN ps k ∧ cmC ps k = 0 := by unfold cmV cmC; rw [h, hk]; exact ⟨rfl, rfl⟩
theorem tdiv2_wrap {n : Int} (h1 : -1000000000000000 ≤ n) (h2 : n ≤ 1000000000000000) : IntKind.i64.wrap (n.tdiv 2) = n.tdiv 2 := by
  rw [IntKind.wrap_i64]
  have : n.tdiv 2 = (if 0 ≤ n then n / 2 else -((-n) / 2)) := by
    split
    · exact Int.tdiv_eq_ediv_of_nonneg (by omega)
    · rw [← Int.neg_neg n, Int.neg_tdiv, Int.tdiv_eq_ediv_of_nonneg (by omega), Int.neg_neg]
  rw [this]
  split <;> omega
set_option maxHeartbeats 1600000 in
theorem impl_CountOfMultiple_any (a : Option Addr) (n cap : Nat) (ps : List (Int × Int)) (k0 : Int) (w : World) (h : LV w a n ps) : Calls Try.prog 35 #[.slice a n cap, .int .i64 k0] w fun e w' => e = .returned (.tuple #[.int .i64 (cmV ps k0), .int .i64 (cmC ps k0)]) ∧ Below w.heap.size w w' := by
  have HI := Lib.hid (impl_IsPolygon_any a n cap ps w h)
  cases hp : isP ps
  · rw [(cm_no hp).1, (cm_no hp).2]
    rw [hp] at HI
    clear h hp
    go_enter Try.func35, Try.ntmps35
    go_wp2_with (go_at_call 20; refine (HI.out).mono ?_; rintro e w1 ⟨rfl, hb⟩; have hb0 : Below w.heap.size w w1 := hb)
    refine bodyPost_ret (v := .tuple #[.int .i64 0, .int .i64 1]) (by simp (maxDischargeDepth := 8) [results, Try.results35, go_sem, *]) rfl ?_
    exact ⟨rfl, hb0⟩
  · rw [hp] at HI
    have HL := Lib.hid (h.poly hp)
    cases hk : inB k0 0 1000
    · rw [(cm_range hp hk).1, (cm_range hp hk).2]
      have hk2 := inB_not.1 hk
      clear h hp
      by_cases h1 : k0 < 0
      · go_enter Try.func35, Try.ntmps35
        go_wp2_with (first | (go_at_call 20; refine (HI.out).mono ?_; rintro e w1 ⟨rfl, hb⟩; have hb0 : Below w.heap.size w w1 := hb))
        refine bodyPost_ret (v := .tuple #[.int .i64 0, .int .i64 2]) (by simp (maxDischargeDepth := 8) [results, Try.results35, go_sem, *]) rfl ?_
        exact ⟨rfl, hb0⟩
      · have h2 : 1000 < k0 := by omega
        clear hk2
        go_enter Try.func35, Try.ntmps35
        go_wp2_with (first | (go_at_call 20; refine (HI.out).mono ?_; rintro e w1 ⟨rfl, hb⟩; have hb0 : Below w.heap.size w w1 := hb))
        refine bodyPost_ret (v := .tuple #[.int .i64 0, .int .i64 2]) (by simp (maxDischargeDepth := 8) [results, Try.results35, go_sem, *]) rfl ?_
        exact ⟨rfl, hb0⟩
    · rw [(cm_yes hp hk).1, (cm_yes hp hk).2]
      obtain ⟨h1, h2⟩ := inB_iff.1 hk
      obtain ⟨⟨a1, a2⟩, b1, b2⟩ := HL.out.bds
      have HA : Hid (∀ w1, Below w.heap.size w w1 → Calls Try.prog 66 #[.slice a n cap] w1 fun e w' => e = .returned (.int .i64 (areaL ps)) ∧ Below w1.heap.size w1 w') := fun w1 hb => areaWithin_lp a n cap ps w1 (HL.out.below hb)
      have HB : Hid (∀ w1, Below w.heap.size w w1 → Calls Try.prog 68 #[.slice a n cap] w1 fun e w' => e = .returned (.int .i64 (bordL ps)) ∧ Below w1.heap.size w1 w') := fun w1 hb => borderOf_lp a n cap ps w1 (HL.out.below hb)
      have hd : cmN ps k0 = (k0 * k0 * areaL ps + k0 * bordL ps + 2).tdiv 2 := rfl
      rw [hd]
      obtain ⟨A, hA⟩ : ∃ A, areaL ps = A := ⟨_, rfl⟩
      obtain ⟨B, hB⟩ : ∃ B, bordL ps = B := ⟨_, rfl⟩
      rw [hA] at a1 a2 HA ⊢
      rw [hB] at b1 b2 HB ⊢
      obtain ⟨m1, m2⟩ := mul_bd (A := 1000) (B := 1000) (a := k0) (b := k0) (by omega) h2 (by omega) h2
      obtain ⟨K, hK⟩ : ∃ K, k0 * k0 = K := ⟨_, rfl⟩
      rw [hK] at m1 m2 ⊢
      obtain ⟨n1, n2⟩ := mul_bd (A := 1000000) (B := 24000000) (a := K) (b := A) (by omega) (by omega) a1 a2
      obtain ⟨o1, o2⟩ := mul_bd (A := 1000) (B := 24000) (a := k0) (b := B) (by omega) h2 b1 b2
      obtain ⟨M, hM⟩ : ∃ M, K * A = M := ⟨_, rfl⟩
      obtain ⟨N, hN⟩ : ∃ N, k0 * B = N := ⟨_, rfl⟩
      rw [hM] at n1 n2 ⊢
      rw [hN] at o1 o2 ⊢
      have q1 : IntKind.i64.wrap K = K := by rw [IntKind.wrap_i64]; omega
      have q2 : IntKind.i64.wrap M = M := by rw [IntKind.wrap_i64]; omega
      have q3 : IntKind.i64.wrap N = N := by rw [IntKind.wrap_i64]; omega
      have q4 : IntKind.i64.wrap (M + N) = M + N := by rw [IntKind.wrap_i64]; omega
      have q5 : IntKind.i64.wrap (M + N + 2) = M + N + 2 := by rw [IntKind.wrap_i64]; omega
      have q6 := tdiv2_wrap (n := M + N + 2) (by omega) (by omega)
      have j1 : ¬ k0 < 0 := by omega
      have j2 : ¬ 1000 < k0 := by omega
      clear h hp hd hA hB m1 m2 n1 n2 o1 o2
      go_enter Try.func35, Try.ntmps35
      go_wp2_with (first | (go_at_call 20; refine (HI.out).mono ?_; rintro e w1 ⟨rfl, hb⟩; have hb0 : Below w.heap.size w w1 := hb) | (go_at_call 66; refine (HA.out _ hb0).mono ?_; rintro e w2 ⟨rfl, hb2⟩; have hb00 := below_after hb2 hb0) | (go_at_call 68; refine (HB.out _ hb00).mono ?_; rintro e w3 ⟨rfl, hb3⟩))
      refine bodyPost_ret (v := .tuple #[.int .i64 ((M + N + 2).tdiv 2), .int .i64 0]) (by simp (maxDischargeDepth := 8) [results, Try.results35, go_sem, *]) rfl ?_
      exact ⟨rfl, below_after hb3 hb00⟩
set_option maxHeartbeats 1600000 in
theorem spec_CountOfMultiple_any (a : Option Addr) (n cap : Nat) (ps : List (Int × Int)) (k0 : Int) (w : World) (h : LV w a n ps) : Calls Try.prog 34 #[.slice a n cap, .int .i64 k0] w fun e w' => e = .returned (.tuple #[.int .i64 (cmV ps k0), .int .i64 (cmC ps k0)]) ∧ Below w.heap.size w w' := by
  have HLV := Lib.hid h
  have HI : Hid (∀ t, Calls Try.prog 61 #[.slice (some ⟨w.heap.size, 0, none⟩) 1 1] (w.alloc (.cells #[.slice a n cap] t)) fun e w' => e = .returned (.int .i64 (cdP ps)) ∧ Below (w.alloc (.cells #[.slice a n cap] t)).heap.size (w.alloc (.cells #[.slice a n cap] t)) w') :=
    fun t => l09Code_one a n cap w.heap.size 1 ps _ (HLV.out.below (by (repeat' (first | (with_reducible exact Below.refl _ _) | (with_reducible refine Below.alloc ?_ ?_ _) | (with_reducible refine Below.setCell ?_ ?_ _) | (with_reducible refine Below.drew ?_) | (with_reducible refine below_drewN ?_ _) | (with_reducible assumption) | (with_reducible refine below_after (by with_reducible assumption) ?_) | go_size)))) (by simp) (by go_cell)
  cases hp : isP ps
  · rw [(cm_no hp).1, (cm_no hp).2]
    rw [cdP_no hp] at HI
    clear h hp
    go_enter Try.func34, Try.ntmps34
    go_wp2_with (go_at_call 61; refine (HI.out _).mono ?_; rintro e w1 ⟨rfl, hb⟩; have hb0 : Below w.heap.size w w1 := (by (repeat' (first | (with_reducible exact Below.refl _ _) | (with_reducible refine Below.alloc ?_ ?_ _) | (with_reducible refine Below.setCell ?_ ?_ _) | (with_reducible refine Below.drew ?_) | (with_reducible refine below_drewN ?_ _) | (with_reducible assumption) | (with_reducible refine below_after (by with_reducible assumption) ?_) | go_size))))
    refine bodyPost_ret (v := .tuple #[.int .i64 0, .int .i64 1]) (by simp (maxDischargeDepth := 8) [results, Try.results34, go_sem, *]) rfl ?_
    exact ⟨rfl, hb0⟩
  · rw [cdP_yes hp] at HI
    have HL := Lib.hid (h.poly hp)
    cases hk : inB k0 0 1000
    · rw [(cm_range hp hk).1, (cm_range hp hk).2]
      have hk2 := inB_not.1 hk
      clear h hp
      by_cases h1 : k0 < 0
      · go_enter Try.func34, Try.ntmps34
        go_wp2_with (first | (go_at_call 61; refine (HI.out _).mono ?_; rintro e w1 ⟨rfl, hb⟩; have hb0 : Below w.heap.size w w1 := (by (repeat' (first | (with_reducible exact Below.refl _ _) | (with_reducible refine Below.alloc ?_ ?_ _) | (with_reducible refine Below.setCell ?_ ?_ _) | (with_reducible refine Below.drew ?_) | (with_reducible refine below_drewN ?_ _) | (with_reducible assumption) | (with_reducible refine below_after (by with_reducible assumption) ?_) | go_size)))) | (go_at_call 71; refine (l01In_any k0 0 1000 _).mono ?_; rintro e wn ⟨rfl, rfl⟩))
        refine bodyPost_ret (v := .tuple #[.int .i64 0, .int .i64 2]) (by simp (maxDischargeDepth := 8) [results, Try.results34, go_sem, *]) rfl ?_
        exact ⟨rfl, hb0⟩
      · have h2 : 1000 < k0 := by omega
        clear hk2
        go_enter Try.func34, Try.ntmps34
        go_wp2_with (first | (go_at_call 61; refine (HI.out _).mono ?_; rintro e w1 ⟨rfl, hb⟩; have hb0 : Below w.heap.size w w1 := (by (repeat' (first | (with_reducible exact Below.refl _ _) | (with_reducible refine Below.alloc ?_ ?_ _) | (with_reducible refine Below.setCell ?_ ?_ _) | (with_reducible refine Below.drew ?_) | (with_reducible refine below_drewN ?_ _) | (with_reducible assumption) | (with_reducible refine below_after (by with_reducible assumption) ?_) | go_size)))) | (go_at_call 71; refine (l01In_any k0 0 1000 _).mono ?_; rintro e wn ⟨rfl, rfl⟩))
        refine bodyPost_ret (v := .tuple #[.int .i64 0, .int .i64 2]) (by simp (maxDischargeDepth := 8) [results, Try.results34, go_sem, *]) rfl ?_
        exact ⟨rfl, hb0⟩
    · rw [(cm_yes hp hk).1, (cm_yes hp hk).2]
      obtain ⟨h1, h2⟩ := inB_iff.1 hk
      obtain ⟨⟨a1, a2⟩, b1, b2⟩ := HL.out.bds
      have HA : Hid (∀ w1, Below w.heap.size w w1 → Calls Try.prog 64 #[.slice a n cap] w1 fun e w' => e = .returned (.int .i64 (areaL ps)) ∧ Below w1.heap.size w1 w') := fun w1 hb => l09Area_lp a n cap ps w1 (HL.out.below hb)
      have HB : Hid (∀ w1, Below w.heap.size w w1 → Calls Try.prog 67 #[.slice a n cap] w1 fun e w' => e = .returned (.int .i64 (bordL ps)) ∧ Below w1.heap.size w1 w') := fun w1 hb => l09Border_lp a n cap ps w1 (HL.out.below hb)
      have hd : cmN ps k0 = (k0 * k0 * areaL ps + k0 * bordL ps + 2).tdiv 2 := rfl
      rw [hd]
      obtain ⟨A, hA⟩ : ∃ A, areaL ps = A := ⟨_, rfl⟩
      obtain ⟨B, hB⟩ : ∃ B, bordL ps = B := ⟨_, rfl⟩
      rw [hA] at a1 a2 HA ⊢
      rw [hB] at b1 b2 HB ⊢
      obtain ⟨m1, m2⟩ := mul_bd (A := 1000) (B := 1000) (a := k0) (b := k0) (by omega) h2 (by omega) h2
      obtain ⟨K, hK⟩ : ∃ K, k0 * k0 = K := ⟨_, rfl⟩
      rw [hK] at m1 m2 ⊢
      obtain ⟨n1, n2⟩ := mul_bd (A := 1000000) (B := 24000000) (a := K) (b := A) (by omega) (by omega) a1 a2
      obtain ⟨o1, o2⟩ := mul_bd (A := 1000) (B := 24000) (a := k0) (b := B) (by omega) h2 b1 b2
      obtain ⟨M, hM⟩ : ∃ M, K * A = M := ⟨_, rfl⟩
      obtain ⟨N, hN⟩ : ∃ N, k0 * B = N := ⟨_, rfl⟩
      rw [hM] at n1 n2 ⊢
      rw [hN] at o1 o2 ⊢
      have q1 : IntKind.i64.wrap K = K := by rw [IntKind.wrap_i64]; omega
      have q2 : IntKind.i64.wrap M = M := by rw [IntKind.wrap_i64]; omega
      have q3 : IntKind.i64.wrap N = N := by rw [IntKind.wrap_i64]; omega
      have q4 : IntKind.i64.wrap (M + N) = M + N := by rw [IntKind.wrap_i64]; omega
      have q5 : IntKind.i64.wrap (M + N + 2) = M + N + 2 := by rw [IntKind.wrap_i64]; omega
      have q6 := tdiv2_wrap (n := M + N + 2) (by omega) (by omega)
      have j1 : ¬ k0 < 0 := by omega
      have j2 : ¬ 1000 < k0 := by omega
      clear h hp hd hA hB m1 m2 n1 n2 o1 o2
      go_enter Try.func34, Try.ntmps34
      go_wp2_with (first | (go_at_call 61; refine (HI.out _).mono ?_; rintro e w1 ⟨rfl, hb⟩; have hb0 : Below w.heap.size w w1 := (by (repeat' (first | (with_reducible exact Below.refl _ _) | (with_reducible refine Below.alloc ?_ ?_ _) | (with_reducible refine Below.setCell ?_ ?_ _) | (with_reducible refine Below.drew ?_) | (with_reducible refine below_drewN ?_ _) | (with_reducible assumption) | (with_reducible refine below_after (by with_reducible assumption) ?_) | go_size)))) | (go_at_call 71; refine (l01In_any k0 0 1000 _).mono ?_; rintro e wn ⟨rfl, rfl⟩) | (go_at_call 64; refine (HA.out _ hb0).mono ?_; rintro e w2 ⟨rfl, hb2⟩; have hb00 := below_after hb2 hb0) | (go_at_call 67; refine (HB.out _ hb00).mono ?_; rintro e w3 ⟨rfl, hb3⟩))
      refine bodyPost_ret (v := .tuple #[.int .i64 ((M + N + 2).tdiv 2), .int .i64 0]) (by simp (maxDischargeDepth := 8) [results, Try.results34, go_sem, *]) rfl ?_
      exact ⟨rfl, below_after hb3 hb00⟩
end Go.Proofs.Ytkfoelkkllpmdaa
