/-
  WordOfMatrix in the model (own work).
-/
import Derived.Test.YtohnmogejidpdaaWoM
namespace Go.Proofs.Ytohnmogejidpdaa
open Go.ChangeShapes Go.WideShapes Go.ChangeAt Go.RowKit
set_option linter.unusedVariables false
set_option linter.unusedSimpArgs false
set_option maxRecDepth 100000

theorem Bk4.grown {w w' : World} {g : Nat} {r : Option Nat} {a b c d : Int} (h : Bk4 w g a b c d) (hg : w.grownBy w' r) (hne : r ≠ some g) : Bk4 w' g a b c d := h.same (hg.block g h.2.2 (fun e => hne e.symm))
def lenStr : Value → Nat
  | .string b => b.size
  | _ => 0
/-- What both answer. -/
def woW (a b c d : Int) : Bool := isMx a b c d && decide (detP (a, b) (c, d) = 1) && decide (0 ≤ a) && decide (0 ≤ b) && decide (0 ≤ c) && decide (0 ≤ d)
def woB (o : Option (List UInt8)) : List UInt8 := o.getD []
def woK (o : Option (List UInt8)) : Int := if o = none then 3 else 0
def wmB (a b c d : Int) : List UInt8 := if woW a b c d = true then woB (wo 200 a b c d) else []
def wmK (a b c d : Int) : Int := if woW a b c d = true then woK (wo 200 a b c d) else if isMx a b c d = true then 5 else 1
theorem woW_wx {a b c d : Int} (h : woW a b c d = true) : isMx a b c d = true ∧ detP (a, b) (c, d) = 1 ∧ Wx a b c d := by
  simp only [woW, Bool.and_eq_true, decide_eq_true_eq] at h
  obtain ⟨⟨⟨⟨⟨h1, h2⟩, h3⟩, h4⟩, h5⟩, h6⟩ := h
  obtain ⟨⟨_, _⟩, ⟨_, _⟩, ⟨_, _⟩, _, _⟩ := mx_crd h1
  exact ⟨h1, h2, h3, by omega, h4, by omega, h5, by omega, h6, by omega, h2⟩
theorem run_min4 (P : Program) (w : World) (ts : Array TypeId) (t : TypeId) (x y z u m : Int) (h : min (min (min x y) z) u = m) : (Builtin.min_ ts t #[.int .i64 x, .int .i64 y, .int .i64 z, .int .i64 u]).run P w = .ok (.int .i64 m) w := by
  rw [← h]
  simp [Builtin.min_, Builtin.min2]
  (repeat' split) <;> omega
set_option maxHeartbeats 6400000 in
theorem spec_Word_ok (a b c d : Int) (w : World) (hw : woW a b c d = true) : Calls Try.prog 19 #[.agg #[.int .i64 a, .int .i64 b, .int .i64 c, .int .i64 d]] w fun e w' => e = .returned (.tuple #[.string ⟨(woB (wo 200 a b c d)).toArray⟩, .int .i64 (woK (wo 200 a b c d))]) ∧ Below w.heap.size w w' := by
  obtain ⟨hmx, hdt, hwx⟩ := woW_wx hw
  obtain ⟨k0, k1⟩ := isMx_parts hmx
  have HMX : Hid (∀ w, Calls Try.prog 51 #[.agg #[.int .i64 a, .int .i64 b, .int .i64 c, .int .i64 d]] w fun e w' => e = .returned (.bool true) ∧ Below w.heap.size w w') := fun w => by
    have := l01Matrix_any a b c d w
    rwa [hmx] at this
  have HDT : Hid (∀ w, Calls Try.prog 52 #[.agg #[.int .i64 a, .int .i64 b, .int .i64 c, .int .i64 d]] w fun e w' => e = .returned (.int .i64 1) ∧ Below w.heap.size w w') := fun w => by
    have := l01DetOf_any a b c d w (isPt_bn1 k0) (isPt_bn2 k0) (isPt_bn1 k1) (isPt_bn2 k1)
    rwa [hdt] at this
  have HX0 := Lib.hid hwx
  obtain ⟨p0, _, p1, _, p2, _, p3, _⟩ := hwx
  obtain ⟨R, hR⟩ : ∃ R, wo 200 a b c d = R := ⟨_, rfl⟩
  have HR0 := Lib.hid hR
  rw [hR]
  clear hw hmx hdt k0 k1 hR
  obtain ⟨GM, hG⟩ : ∃ G, w.heap.size = G := ⟨_, rfl⟩
  have HG := Lib.hid hG
  go_enter Try.func19, Try.ntmps19
  go_upto_region 1 with fail
  obtain ⟨w0, hw0⟩ : ∃ w0, w0 = (w.alloc (.cells #[.int .i64 a, .int .i64 b, .int .i64 c, .int .i64 d] 26)) := ⟨_, rfl⟩
  rw [← hw0]
  have HM : Hid (Bk4 w0 GM a b c d) := by
    have h := (bk4_new w a b c d 26).below (W' := (w.alloc (.cells #[.int .i64 a, .int .i64 b, .int .i64 c, .int .i64 d] 26))) (by (repeat' (first | (with_reducible exact Below.refl _ _) | (with_reducible refine Below.alloc ?_ ?_ _) | (with_reducible refine Below.setCell ?_ ?_ _) | (with_reducible refine Below.drew ?_) | (with_reducible refine below_drewN ?_ _) | (with_reducible assumption) | (with_reducible refine below_after (by with_reducible assumption) ?_) | go_size)))
    (try simp only [World.size_alloc] at h)
    rw [hG] at h
    rw [hw0]; exact h
  have HB : Hid (Below w.heap.size w w0) := by show Below w.heap.size w w0; rw [hw0]; (repeat' (first | (with_reducible exact Below.refl _ _) | (with_reducible refine Below.alloc ?_ ?_ _) | (with_reducible refine Below.setCell ?_ ?_ _) | (with_reducible refine Below.drew ?_) | (with_reducible refine below_drewN ?_ _) | (with_reducible assumption) | (with_reducible refine below_after (by with_reducible assumption) ?_) | go_size))
  clear hw0
  have le_M : w.heap.size ≤ GM := by omega
  obtain ⟨⟨qM0, qM1, qM2, qM3⟩, ⟨fM0, fM1, fM2, fM3⟩, zM⟩ := HM.out
  go_wp2_with fail
  go_at_call 51
  refine (HMX.out _).mono ?_
  rintro e w1 ⟨rfl, hb⟩
  clear qM0 fM0 qM1 fM1 qM2 fM2 qM3 fM3 zM
  have HM := Lib.hid (HM.out.below hb)
  have HB := Lib.hid (below_after hb HB.out)
  clear hb
  obtain ⟨⟨qM0, qM1, qM2, qM3⟩, ⟨fM0, fM1, fM2, fM3⟩, zM⟩ := HM.out
  go_wp2_with fail
  go_at_call 52
  refine (HDT.out _).mono ?_
  rintro e w2 ⟨rfl, hb⟩
  clear qM0 fM0 qM1 fM1 qM2 fM2 qM3 fM3 zM
  have HM := Lib.hid (HM.out.below hb)
  have HB := Lib.hid (below_after hb HB.out)
  clear hb
  obtain ⟨⟨qM0, qM1, qM2, qM3⟩, ⟨fM0, fM1, fM2, fM3⟩, zM⟩ := HM.out
  go_wp2_with fail
  clear qM0 fM0 qM1 fM1 qM2 fM2 qM3 fM3 zM
  clear p0 p1 p2 p3
  go_loopw [4] (fun s wr => ∃ (n : Nat) (a b c d : Int) (xs : List UInt8), s = .string ⟨xs.toArray⟩ ∧ Wx a b c d ∧ n + xs.length = 200 ∧ (wo n a b c d).map (xs ++ ·) = R ∧ Bk4 wr GM a b c d ∧ Below w.heap.size w wr) (fun s _ => 300 - lenStr s)
  case atStart => exact ⟨200, a, b, c, d, [], rfl, HX0.out, by simp, by rw [← HR0.out]; cases wo 200 a b c d <;> simp, HM.out, HB.out⟩
  case round =>
    obtain ⟨n, a, b, c, d, xs, rfl, hwx, hnl, hwo, hM, hbel⟩ := hrel
    clear HM HB
    have HM := Lib.hid hM
    have HB := Lib.hid hbel
    have HWX := Lib.hid hwx
    have HWO := Lib.hid hwo
    clear hM hbel hwx hwo
    have hsz := bytes_size xs
    have heq := eq_mI a b c d
    obtain ⟨a0, a1, b0, b1, c0, c1, d0, d1, hdt⟩ := HWX.out
    clear hdt
    cases hI : isI a b c d
    · rw [hI] at heq
      have HI := Lib.hid hI
      clear hI
      rcases Nat.eq_zero_or_pos n with hn0 | hn0
      · have HE : Hid (R = none) := by
          show _ = _
          rw [← HWO.out, hn0, wo_none HI.out]; rfl
        have h200 : ((xs.length : Int) == 200) = true := by simp; omega
        obtain ⟨⟨qM0, qM1, qM2, qM3⟩, ⟨fM0, fM1, fM2, fM3⟩, zM⟩ := HM.out
        go_wp2_with fail
        refine bodyPost_ret (v := .tuple #[.string ⟨#[]⟩, .int .i64 3]) (by simp (maxDischargeDepth := 8) [results, Try.results19, go_sem, *]) rfl ?_
        have hb := HB.out
        exact ⟨by rw [HE.out]; rfl, by (repeat' (first | (with_reducible exact Below.refl _ _) | (with_reducible refine Below.alloc ?_ ?_ _) | (with_reducible refine Below.setCell ?_ ?_ _) | (with_reducible refine Below.drew ?_) | (with_reducible refine below_drewN ?_ _) | (with_reducible assumption) | (with_reducible refine below_after (by with_reducible assumption) ?_) | go_size))⟩
      · obtain ⟨n, rfl⟩ : ∃ m, n = m + 1 := ⟨n - 1, by omega⟩
        have h200 : ((xs.length : Int) == 200) = false := by simp; omega
        have hbig : ¬ 9223372036854775807 < xs.length + 1 := by omega
        rcases wx_rows HWX.out HI.out with ⟨r1, r2, r3⟩ | ⟨r1, r2, r3, r4⟩
        · have HW2 := Lib.hid (wx_R HWX.out r1 r2)
          have HM2 : Hid ((wo n (a - c) (b - d) c d).map ((xs ++ [82]) ++ ·) = R) := map_prep xs 82 _ (by rw [← wo_R HI.out r3]; exact HWO.out)
          obtain ⟨⟨qM0, qM1, qM2, qM3⟩, ⟨fM0, fM1, fM2, fM3⟩, zM⟩ := HM.out
          go_wp2_with fail
          clear qM0 fM0 qM1 fM1 qM2 fM2 qM3 fM3 zM
          have HM := Lib.hid ((((HM.out.set0 (a - c)).set1 (b - d)).set2 c).set3 d)
          have HB := Lib.hid (Below.setCell (Below.setCell (Below.setCell (Below.setCell HB.out (p := ⟨GM, 0, none⟩) le_M (.int .i64 (a - c))) (p := ⟨GM, 1, none⟩) le_M (.int .i64 (b - d))) (p := ⟨GM, 2, none⟩) le_M (.int .i64 c)) (p := ⟨GM, 3, none⟩) le_M (.int .i64 d))
          go_roundw
          case rel => exact ⟨n, a - c, b - d, c, d, xs ++ [82], by rw [bytes_snoc], HW2.out, by rw [List.length_append]; simp; omega, HM2.out, HM.out, HB.out⟩
          case measure => simp only [lenStr, bytes_snoc, bytes_size, List.length_append]; simp; omega
        · have HW2 := Lib.hid (wx_L HWX.out r1 r2)
          have HM2 : Hid ((wo n a b (c - a) (d - b)).map ((xs ++ [76]) ++ ·) = R) := map_prep xs 76 _ (by rw [← wo_L HI.out (by omega)]; exact HWO.out)
          by_cases r5 : c ≤ a
          · have r6 : ¬ d ≤ b := fun h => r4 ⟨r5, h⟩
            clear r4
            obtain ⟨⟨qM0, qM1, qM2, qM3⟩, ⟨fM0, fM1, fM2, fM3⟩, zM⟩ := HM.out
            go_wp2_with fail
            clear qM0 fM0 qM1 fM1 qM2 fM2 qM3 fM3 zM
            have HM := Lib.hid ((((HM.out.set0 a).set1 b).set2 (c - a)).set3 (d - b))
            have HB := Lib.hid (Below.setCell (Below.setCell (Below.setCell (Below.setCell HB.out (p := ⟨GM, 0, none⟩) le_M (.int .i64 a)) (p := ⟨GM, 1, none⟩) le_M (.int .i64 b)) (p := ⟨GM, 2, none⟩) le_M (.int .i64 (c - a))) (p := ⟨GM, 3, none⟩) le_M (.int .i64 (d - b)))
            go_roundw
            case rel => exact ⟨n, a, b, c - a, d - b, xs ++ [76], by rw [bytes_snoc], HW2.out, by rw [List.length_append]; simp; omega, HM2.out, HM.out, HB.out⟩
            case measure => simp only [lenStr, bytes_snoc, bytes_size, List.length_append]; simp; omega
          · clear r4
            obtain ⟨⟨qM0, qM1, qM2, qM3⟩, ⟨fM0, fM1, fM2, fM3⟩, zM⟩ := HM.out
            go_wp2_with fail
            clear qM0 fM0 qM1 fM1 qM2 fM2 qM3 fM3 zM
            have HM := Lib.hid ((((HM.out.set0 a).set1 b).set2 (c - a)).set3 (d - b))
            have HB := Lib.hid (Below.setCell (Below.setCell (Below.setCell (Below.setCell HB.out (p := ⟨GM, 0, none⟩) le_M (.int .i64 a)) (p := ⟨GM, 1, none⟩) le_M (.int .i64 b)) (p := ⟨GM, 2, none⟩) le_M (.int .i64 (c - a))) (p := ⟨GM, 3, none⟩) le_M (.int .i64 (d - b)))
            go_roundw
            case rel => exact ⟨n, a, b, c - a, d - b, xs ++ [76], by rw [bytes_snoc], HW2.out, by rw [List.length_append]; simp; omega, HM2.out, HM.out, HB.out⟩
            case measure => simp only [lenStr, bytes_snoc, bytes_size, List.length_append]; simp; omega
    · rw [hI] at heq
      have HE : Hid (R = some xs) := by
        show _ = _
        rw [← HWO.out, wo_end hI]; simp
      clear hI
      obtain ⟨⟨qM0, qM1, qM2, qM3⟩, ⟨fM0, fM1, fM2, fM3⟩, zM⟩ := HM.out
      go_wp2_with fail
      refine bodyPost_ret (v := .tuple #[.string ⟨xs.toArray⟩, .int .i64 0]) (by simp (maxDischargeDepth := 8) [results, Try.results19, go_sem, *]) rfl ?_
      have hb := HB.out
      exact ⟨by rw [HE.out]; rfl, by (repeat' (first | (with_reducible exact Below.refl _ _) | (with_reducible refine Below.alloc ?_ ?_ _) | (with_reducible refine Below.setCell ?_ ?_ _) | (with_reducible refine Below.drew ?_) | (with_reducible refine below_drewN ?_ _) | (with_reducible assumption) | (with_reducible refine below_after (by with_reducible assumption) ?_) | go_size))⟩

set_option maxHeartbeats 1600000 in
theorem spec_WordOfMatrix_any (a b c d : Int) (w : World) : Calls Try.prog 19 #[.agg #[.int .i64 a, .int .i64 b, .int .i64 c, .int .i64 d]] w fun e w' => e = .returned (.tuple #[.string ⟨(wmB a b c d).toArray⟩, .int .i64 (wmK a b c d)]) ∧ Below w.heap.size w w' := by
  cases hmx : isMx a b c d
  · have hw : woW a b c d = false := by unfold woW; rw [hmx]; rfl
    rw [show wmB a b c d = [] from by unfold wmB; rw [if_neg (by rw [hw]; decide)], show wmK a b c d = 1 from by unfold wmK; rw [if_neg (by rw [hw]; decide), if_neg (by rw [hmx]; decide)]]
    have HMX : Hid (∀ w, Calls Try.prog 51 #[.agg #[.int .i64 a, .int .i64 b, .int .i64 c, .int .i64 d]] w fun e w' => e = .returned (.bool false) ∧ Below w.heap.size w w') := fun w => by
      have := l01Matrix_any a b c d w
      rwa [hmx] at this
    clear hmx hw
    obtain ⟨GM, hG⟩ : ∃ G, w.heap.size = G := ⟨_, rfl⟩
    have HG := Lib.hid hG
    go_enter Try.func19, Try.ntmps19
    go_upto_region 1 with fail
    obtain ⟨w0, hw0⟩ : ∃ w0, w0 = (w.alloc (.cells #[.int .i64 a, .int .i64 b, .int .i64 c, .int .i64 d] 26)) := ⟨_, rfl⟩
    rw [← hw0]
    have HM : Hid (Bk4 w0 GM a b c d) := by
      have h := (bk4_new w a b c d 26).below (W' := (w.alloc (.cells #[.int .i64 a, .int .i64 b, .int .i64 c, .int .i64 d] 26))) (by (repeat' (first | (with_reducible exact Below.refl _ _) | (with_reducible refine Below.alloc ?_ ?_ _) | (with_reducible refine Below.setCell ?_ ?_ _) | (with_reducible refine Below.drew ?_) | (with_reducible refine below_drewN ?_ _) | (with_reducible assumption) | (with_reducible refine below_after (by with_reducible assumption) ?_) | go_size)))
      (try simp only [World.size_alloc] at h)
      rw [hG] at h
      rw [hw0]; exact h
    have HB : Hid (Below w.heap.size w w0) := by show Below w.heap.size w w0; rw [hw0]; (repeat' (first | (with_reducible exact Below.refl _ _) | (with_reducible refine Below.alloc ?_ ?_ _) | (with_reducible refine Below.setCell ?_ ?_ _) | (with_reducible refine Below.drew ?_) | (with_reducible refine below_drewN ?_ _) | (with_reducible assumption) | (with_reducible refine below_after (by with_reducible assumption) ?_) | go_size))
    clear hw0
    have le_M : w.heap.size ≤ GM := by omega
    obtain ⟨⟨qM0, qM1, qM2, qM3⟩, ⟨fM0, fM1, fM2, fM3⟩, zM⟩ := HM.out
    go_wp2_with fail
    go_at_call 51
    refine (HMX.out _).mono ?_
    rintro e w1 ⟨rfl, hb⟩
    clear qM0 fM0 qM1 fM1 qM2 fM2 qM3 fM3 zM
    have HM := Lib.hid (HM.out.below hb)
    have HB := Lib.hid (below_after hb HB.out)
    clear hb
    obtain ⟨⟨qM0, qM1, qM2, qM3⟩, ⟨fM0, fM1, fM2, fM3⟩, zM⟩ := HM.out
    go_wp2_with fail
    refine bodyPost_ret (v := .tuple #[.string ⟨#[]⟩, .int .i64 1]) (by simp (maxDischargeDepth := 8) [results, Try.results19, go_sem, *]) rfl ?_
    have hb := HB.out
    exact ⟨rfl, by (repeat' (first | (with_reducible exact Below.refl _ _) | (with_reducible refine Below.alloc ?_ ?_ _) | (with_reducible refine Below.setCell ?_ ?_ _) | (with_reducible refine Below.drew ?_) | (with_reducible refine below_drewN ?_ _) | (with_reducible assumption) | (with_reducible refine below_after (by with_reducible assumption) ?_) | go_size))⟩
  · have HMX : Hid (∀ w, Calls Try.prog 51 #[.agg #[.int .i64 a, .int .i64 b, .int .i64 c, .int .i64 d]] w fun e w' => e = .returned (.bool true) ∧ Below w.heap.size w w') := fun w => by
      have := l01Matrix_any a b c d w
      rwa [hmx] at this
    obtain ⟨k0, k1⟩ := isMx_parts hmx
    have HDT : Hid (∀ w, Calls Try.prog 52 #[.agg #[.int .i64 a, .int .i64 b, .int .i64 c, .int .i64 d]] w fun e w' => e = .returned (.int .i64 (detP (a, b) (c, d))) ∧ Below w.heap.size w w') := fun w => l01DetOf_any a b c d w (isPt_bn1 k0) (isPt_bn2 k0) (isPt_bn1 k1) (isPt_bn2 k1)
    cases hw : woW a b c d
    · rw [show wmB a b c d = [] from by unfold wmB; rw [if_neg (by rw [hw]; decide)], show wmK a b c d = 5 from by unfold wmK; rw [if_neg (by rw [hw]; decide), if_pos hmx]]
      by_cases hd : detP (a, b) (c, d) = 1
      · rw [hd] at HDT
        have hneg : ¬ (0 ≤ a ∧ 0 ≤ b ∧ 0 ≤ c ∧ 0 ≤ d) := by
          rintro ⟨h1, h2, h3, h4⟩
          have : woW a b c d = true := by simp [woW, hmx, hd, h1, h2, h3, h4]
          rw [hw] at this; cases this
        clear hw hmx hd k0 k1
        by_cases g0 : a < 0
        · clear hneg
          obtain ⟨GM, hG⟩ : ∃ G, w.heap.size = G := ⟨_, rfl⟩
          have HG := Lib.hid hG
          go_enter Try.func19, Try.ntmps19
          go_upto_region 1 with fail
          obtain ⟨w0, hw0⟩ : ∃ w0, w0 = (w.alloc (.cells #[.int .i64 a, .int .i64 b, .int .i64 c, .int .i64 d] 26)) := ⟨_, rfl⟩
          rw [← hw0]
          have HM : Hid (Bk4 w0 GM a b c d) := by
            have h := (bk4_new w a b c d 26).below (W' := (w.alloc (.cells #[.int .i64 a, .int .i64 b, .int .i64 c, .int .i64 d] 26))) (by (repeat' (first | (with_reducible exact Below.refl _ _) | (with_reducible refine Below.alloc ?_ ?_ _) | (with_reducible refine Below.setCell ?_ ?_ _) | (with_reducible refine Below.drew ?_) | (with_reducible refine below_drewN ?_ _) | (with_reducible assumption) | (with_reducible refine below_after (by with_reducible assumption) ?_) | go_size)))
            (try simp only [World.size_alloc] at h)
            rw [hG] at h
            rw [hw0]; exact h
          have HB : Hid (Below w.heap.size w w0) := by show Below w.heap.size w w0; rw [hw0]; (repeat' (first | (with_reducible exact Below.refl _ _) | (with_reducible refine Below.alloc ?_ ?_ _) | (with_reducible refine Below.setCell ?_ ?_ _) | (with_reducible refine Below.drew ?_) | (with_reducible refine below_drewN ?_ _) | (with_reducible assumption) | (with_reducible refine below_after (by with_reducible assumption) ?_) | go_size))
          clear hw0
          have le_M : w.heap.size ≤ GM := by omega
          obtain ⟨⟨qM0, qM1, qM2, qM3⟩, ⟨fM0, fM1, fM2, fM3⟩, zM⟩ := HM.out
          go_wp2_with fail
          go_at_call 51
          refine (HMX.out _).mono ?_
          rintro e w1 ⟨rfl, hb⟩
          clear qM0 fM0 qM1 fM1 qM2 fM2 qM3 fM3 zM
          have HM := Lib.hid (HM.out.below hb)
          have HB := Lib.hid (below_after hb HB.out)
          clear hb
          obtain ⟨⟨qM0, qM1, qM2, qM3⟩, ⟨fM0, fM1, fM2, fM3⟩, zM⟩ := HM.out
          go_wp2_with fail
          go_at_call 52
          refine (HDT.out _).mono ?_
          rintro e w2 ⟨rfl, hb⟩
          clear qM0 fM0 qM1 fM1 qM2 fM2 qM3 fM3 zM
          have HM := Lib.hid (HM.out.below hb)
          have HB := Lib.hid (below_after hb HB.out)
          clear hb
          obtain ⟨⟨qM0, qM1, qM2, qM3⟩, ⟨fM0, fM1, fM2, fM3⟩, zM⟩ := HM.out
          go_wp2_with fail
          refine bodyPost_ret (v := .tuple #[.string ⟨#[]⟩, .int .i64 5]) (by simp (maxDischargeDepth := 8) [results, Try.results19, go_sem, *]) rfl ?_
          have hb := HB.out
          exact ⟨rfl, by (repeat' (first | (with_reducible exact Below.refl _ _) | (with_reducible refine Below.alloc ?_ ?_ _) | (with_reducible refine Below.setCell ?_ ?_ _) | (with_reducible refine Below.drew ?_) | (with_reducible refine below_drewN ?_ _) | (with_reducible assumption) | (with_reducible refine below_after (by with_reducible assumption) ?_) | go_size))⟩
        · by_cases g1 : b < 0
          · clear hneg
            obtain ⟨GM, hG⟩ : ∃ G, w.heap.size = G := ⟨_, rfl⟩
            have HG := Lib.hid hG
            go_enter Try.func19, Try.ntmps19
            go_upto_region 1 with fail
            obtain ⟨w0, hw0⟩ : ∃ w0, w0 = (w.alloc (.cells #[.int .i64 a, .int .i64 b, .int .i64 c, .int .i64 d] 26)) := ⟨_, rfl⟩
            rw [← hw0]
            have HM : Hid (Bk4 w0 GM a b c d) := by
              have h := (bk4_new w a b c d 26).below (W' := (w.alloc (.cells #[.int .i64 a, .int .i64 b, .int .i64 c, .int .i64 d] 26))) (by (repeat' (first | (with_reducible exact Below.refl _ _) | (with_reducible refine Below.alloc ?_ ?_ _) | (with_reducible refine Below.setCell ?_ ?_ _) | (with_reducible refine Below.drew ?_) | (with_reducible refine below_drewN ?_ _) | (with_reducible assumption) | (with_reducible refine below_after (by with_reducible assumption) ?_) | go_size)))
              (try simp only [World.size_alloc] at h)
              rw [hG] at h
              rw [hw0]; exact h
            have HB : Hid (Below w.heap.size w w0) := by show Below w.heap.size w w0; rw [hw0]; (repeat' (first | (with_reducible exact Below.refl _ _) | (with_reducible refine Below.alloc ?_ ?_ _) | (with_reducible refine Below.setCell ?_ ?_ _) | (with_reducible refine Below.drew ?_) | (with_reducible refine below_drewN ?_ _) | (with_reducible assumption) | (with_reducible refine below_after (by with_reducible assumption) ?_) | go_size))
            clear hw0
            have le_M : w.heap.size ≤ GM := by omega
            obtain ⟨⟨qM0, qM1, qM2, qM3⟩, ⟨fM0, fM1, fM2, fM3⟩, zM⟩ := HM.out
            go_wp2_with fail
            go_at_call 51
            refine (HMX.out _).mono ?_
            rintro e w1 ⟨rfl, hb⟩
            clear qM0 fM0 qM1 fM1 qM2 fM2 qM3 fM3 zM
            have HM := Lib.hid (HM.out.below hb)
            have HB := Lib.hid (below_after hb HB.out)
            clear hb
            obtain ⟨⟨qM0, qM1, qM2, qM3⟩, ⟨fM0, fM1, fM2, fM3⟩, zM⟩ := HM.out
            go_wp2_with fail
            go_at_call 52
            refine (HDT.out _).mono ?_
            rintro e w2 ⟨rfl, hb⟩
            clear qM0 fM0 qM1 fM1 qM2 fM2 qM3 fM3 zM
            have HM := Lib.hid (HM.out.below hb)
            have HB := Lib.hid (below_after hb HB.out)
            clear hb
            obtain ⟨⟨qM0, qM1, qM2, qM3⟩, ⟨fM0, fM1, fM2, fM3⟩, zM⟩ := HM.out
            go_wp2_with fail
            refine bodyPost_ret (v := .tuple #[.string ⟨#[]⟩, .int .i64 5]) (by simp (maxDischargeDepth := 8) [results, Try.results19, go_sem, *]) rfl ?_
            have hb := HB.out
            exact ⟨rfl, by (repeat' (first | (with_reducible exact Below.refl _ _) | (with_reducible refine Below.alloc ?_ ?_ _) | (with_reducible refine Below.setCell ?_ ?_ _) | (with_reducible refine Below.drew ?_) | (with_reducible refine below_drewN ?_ _) | (with_reducible assumption) | (with_reducible refine below_after (by with_reducible assumption) ?_) | go_size))⟩
          · by_cases g2 : c < 0
            · clear hneg
              obtain ⟨GM, hG⟩ : ∃ G, w.heap.size = G := ⟨_, rfl⟩
              have HG := Lib.hid hG
              go_enter Try.func19, Try.ntmps19
              go_upto_region 1 with fail
              obtain ⟨w0, hw0⟩ : ∃ w0, w0 = (w.alloc (.cells #[.int .i64 a, .int .i64 b, .int .i64 c, .int .i64 d] 26)) := ⟨_, rfl⟩
              rw [← hw0]
              have HM : Hid (Bk4 w0 GM a b c d) := by
                have h := (bk4_new w a b c d 26).below (W' := (w.alloc (.cells #[.int .i64 a, .int .i64 b, .int .i64 c, .int .i64 d] 26))) (by (repeat' (first | (with_reducible exact Below.refl _ _) | (with_reducible refine Below.alloc ?_ ?_ _) | (with_reducible refine Below.setCell ?_ ?_ _) | (with_reducible refine Below.drew ?_) | (with_reducible refine below_drewN ?_ _) | (with_reducible assumption) | (with_reducible refine below_after (by with_reducible assumption) ?_) | go_size)))
                (try simp only [World.size_alloc] at h)
                rw [hG] at h
                rw [hw0]; exact h
              have HB : Hid (Below w.heap.size w w0) := by show Below w.heap.size w w0; rw [hw0]; (repeat' (first | (with_reducible exact Below.refl _ _) | (with_reducible refine Below.alloc ?_ ?_ _) | (with_reducible refine Below.setCell ?_ ?_ _) | (with_reducible refine Below.drew ?_) | (with_reducible refine below_drewN ?_ _) | (with_reducible assumption) | (with_reducible refine below_after (by with_reducible assumption) ?_) | go_size))
              clear hw0
              have le_M : w.heap.size ≤ GM := by omega
              obtain ⟨⟨qM0, qM1, qM2, qM3⟩, ⟨fM0, fM1, fM2, fM3⟩, zM⟩ := HM.out
              go_wp2_with fail
              go_at_call 51
              refine (HMX.out _).mono ?_
              rintro e w1 ⟨rfl, hb⟩
              clear qM0 fM0 qM1 fM1 qM2 fM2 qM3 fM3 zM
              have HM := Lib.hid (HM.out.below hb)
              have HB := Lib.hid (below_after hb HB.out)
              clear hb
              obtain ⟨⟨qM0, qM1, qM2, qM3⟩, ⟨fM0, fM1, fM2, fM3⟩, zM⟩ := HM.out
              go_wp2_with fail
              go_at_call 52
              refine (HDT.out _).mono ?_
              rintro e w2 ⟨rfl, hb⟩
              clear qM0 fM0 qM1 fM1 qM2 fM2 qM3 fM3 zM
              have HM := Lib.hid (HM.out.below hb)
              have HB := Lib.hid (below_after hb HB.out)
              clear hb
              obtain ⟨⟨qM0, qM1, qM2, qM3⟩, ⟨fM0, fM1, fM2, fM3⟩, zM⟩ := HM.out
              go_wp2_with fail
              refine bodyPost_ret (v := .tuple #[.string ⟨#[]⟩, .int .i64 5]) (by simp (maxDischargeDepth := 8) [results, Try.results19, go_sem, *]) rfl ?_
              have hb := HB.out
              exact ⟨rfl, by (repeat' (first | (with_reducible exact Below.refl _ _) | (with_reducible refine Below.alloc ?_ ?_ _) | (with_reducible refine Below.setCell ?_ ?_ _) | (with_reducible refine Below.drew ?_) | (with_reducible refine below_drewN ?_ _) | (with_reducible assumption) | (with_reducible refine below_after (by with_reducible assumption) ?_) | go_size))⟩
            · have g3 : d < 0 := by omega
              clear hneg
              obtain ⟨GM, hG⟩ : ∃ G, w.heap.size = G := ⟨_, rfl⟩
              have HG := Lib.hid hG
              go_enter Try.func19, Try.ntmps19
              go_upto_region 1 with fail
              obtain ⟨w0, hw0⟩ : ∃ w0, w0 = (w.alloc (.cells #[.int .i64 a, .int .i64 b, .int .i64 c, .int .i64 d] 26)) := ⟨_, rfl⟩
              rw [← hw0]
              have HM : Hid (Bk4 w0 GM a b c d) := by
                have h := (bk4_new w a b c d 26).below (W' := (w.alloc (.cells #[.int .i64 a, .int .i64 b, .int .i64 c, .int .i64 d] 26))) (by (repeat' (first | (with_reducible exact Below.refl _ _) | (with_reducible refine Below.alloc ?_ ?_ _) | (with_reducible refine Below.setCell ?_ ?_ _) | (with_reducible refine Below.drew ?_) | (with_reducible refine below_drewN ?_ _) | (with_reducible assumption) | (with_reducible refine below_after (by with_reducible assumption) ?_) | go_size)))
                (try simp only [World.size_alloc] at h)
                rw [hG] at h
                rw [hw0]; exact h
              have HB : Hid (Below w.heap.size w w0) := by show Below w.heap.size w w0; rw [hw0]; (repeat' (first | (with_reducible exact Below.refl _ _) | (with_reducible refine Below.alloc ?_ ?_ _) | (with_reducible refine Below.setCell ?_ ?_ _) | (with_reducible refine Below.drew ?_) | (with_reducible refine below_drewN ?_ _) | (with_reducible assumption) | (with_reducible refine below_after (by with_reducible assumption) ?_) | go_size))
              clear hw0
              have le_M : w.heap.size ≤ GM := by omega
              obtain ⟨⟨qM0, qM1, qM2, qM3⟩, ⟨fM0, fM1, fM2, fM3⟩, zM⟩ := HM.out
              go_wp2_with fail
              go_at_call 51
              refine (HMX.out _).mono ?_
              rintro e w1 ⟨rfl, hb⟩
              clear qM0 fM0 qM1 fM1 qM2 fM2 qM3 fM3 zM
              have HM := Lib.hid (HM.out.below hb)
              have HB := Lib.hid (below_after hb HB.out)
              clear hb
              obtain ⟨⟨qM0, qM1, qM2, qM3⟩, ⟨fM0, fM1, fM2, fM3⟩, zM⟩ := HM.out
              go_wp2_with fail
              go_at_call 52
              refine (HDT.out _).mono ?_
              rintro e w2 ⟨rfl, hb⟩
              clear qM0 fM0 qM1 fM1 qM2 fM2 qM3 fM3 zM
              have HM := Lib.hid (HM.out.below hb)
              have HB := Lib.hid (below_after hb HB.out)
              clear hb
              obtain ⟨⟨qM0, qM1, qM2, qM3⟩, ⟨fM0, fM1, fM2, fM3⟩, zM⟩ := HM.out
              go_wp2_with fail
              refine bodyPost_ret (v := .tuple #[.string ⟨#[]⟩, .int .i64 5]) (by simp (maxDischargeDepth := 8) [results, Try.results19, go_sem, *]) rfl ?_
              have hb := HB.out
              exact ⟨rfl, by (repeat' (first | (with_reducible exact Below.refl _ _) | (with_reducible refine Below.alloc ?_ ?_ _) | (with_reducible refine Below.setCell ?_ ?_ _) | (with_reducible refine Below.drew ?_) | (with_reducible refine below_drewN ?_ _) | (with_reducible assumption) | (with_reducible refine below_after (by with_reducible assumption) ?_) | go_size))⟩
      · obtain ⟨D, hD⟩ : ∃ D, detP (a, b) (c, d) = D := ⟨_, rfl⟩
        rw [hD] at HDT hd
        have hd1 : (D == 1) = false := by simpa using hd
        have hd2 : (D != 1) = true := by simpa using hd
        clear hw hmx hD k0 k1
        obtain ⟨GM, hG⟩ : ∃ G, w.heap.size = G := ⟨_, rfl⟩
        have HG := Lib.hid hG
        go_enter Try.func19, Try.ntmps19
        go_upto_region 1 with fail
        obtain ⟨w0, hw0⟩ : ∃ w0, w0 = (w.alloc (.cells #[.int .i64 a, .int .i64 b, .int .i64 c, .int .i64 d] 26)) := ⟨_, rfl⟩
        rw [← hw0]
        have HM : Hid (Bk4 w0 GM a b c d) := by
          have h := (bk4_new w a b c d 26).below (W' := (w.alloc (.cells #[.int .i64 a, .int .i64 b, .int .i64 c, .int .i64 d] 26))) (by (repeat' (first | (with_reducible exact Below.refl _ _) | (with_reducible refine Below.alloc ?_ ?_ _) | (with_reducible refine Below.setCell ?_ ?_ _) | (with_reducible refine Below.drew ?_) | (with_reducible refine below_drewN ?_ _) | (with_reducible assumption) | (with_reducible refine below_after (by with_reducible assumption) ?_) | go_size)))
          (try simp only [World.size_alloc] at h)
          rw [hG] at h
          rw [hw0]; exact h
        have HB : Hid (Below w.heap.size w w0) := by show Below w.heap.size w w0; rw [hw0]; (repeat' (first | (with_reducible exact Below.refl _ _) | (with_reducible refine Below.alloc ?_ ?_ _) | (with_reducible refine Below.setCell ?_ ?_ _) | (with_reducible refine Below.drew ?_) | (with_reducible refine below_drewN ?_ _) | (with_reducible assumption) | (with_reducible refine below_after (by with_reducible assumption) ?_) | go_size))
        clear hw0
        have le_M : w.heap.size ≤ GM := by omega
        obtain ⟨⟨qM0, qM1, qM2, qM3⟩, ⟨fM0, fM1, fM2, fM3⟩, zM⟩ := HM.out
        go_wp2_with fail
        go_at_call 51
        refine (HMX.out _).mono ?_
        rintro e w1 ⟨rfl, hb⟩
        clear qM0 fM0 qM1 fM1 qM2 fM2 qM3 fM3 zM
        have HM := Lib.hid (HM.out.below hb)
        have HB := Lib.hid (below_after hb HB.out)
        clear hb
        obtain ⟨⟨qM0, qM1, qM2, qM3⟩, ⟨fM0, fM1, fM2, fM3⟩, zM⟩ := HM.out
        go_wp2_with fail
        go_at_call 52
        refine (HDT.out _).mono ?_
        rintro e w2 ⟨rfl, hb⟩
        clear qM0 fM0 qM1 fM1 qM2 fM2 qM3 fM3 zM
        have HM := Lib.hid (HM.out.below hb)
        have HB := Lib.hid (below_after hb HB.out)
        clear hb
        obtain ⟨⟨qM0, qM1, qM2, qM3⟩, ⟨fM0, fM1, fM2, fM3⟩, zM⟩ := HM.out
        go_wp2_with fail
        refine bodyPost_ret (v := .tuple #[.string ⟨#[]⟩, .int .i64 5]) (by simp (maxDischargeDepth := 8) [results, Try.results19, go_sem, *]) rfl ?_
        have hb := HB.out
        exact ⟨rfl, by (repeat' (first | (with_reducible exact Below.refl _ _) | (with_reducible refine Below.alloc ?_ ?_ _) | (with_reducible refine Below.setCell ?_ ?_ _) | (with_reducible refine Below.drew ?_) | (with_reducible refine below_drewN ?_ _) | (with_reducible assumption) | (with_reducible refine below_after (by with_reducible assumption) ?_) | go_size))⟩
    · rw [show wmB a b c d = woB (wo 200 a b c d) from by unfold wmB; rw [if_pos hw], show wmK a b c d = woK (wo 200 a b c d) from by unfold wmK; rw [if_pos hw]]
      exact spec_Word_ok a b c d w hw
end Go.Proofs.Ytohnmogejidpdaa
