/-
  ApplyToFraction in the program: what lies behind the door, and the door (own work).
-/
import Derived.Test.YtcaleapedomfmaaDoorNbF
import Derived.Test.YtcaleapedomfmaaDoorDoor
namespace Go.Proofs.YtcaleapedomfmaaDoor
open Go.ChangeShapes Go.WideShapes Go.ChangeAt Go.RowKit Go.Shelf
set_option linter.unusedVariables false
set_option maxRecDepth 100000
set_option linter.unusedSimpArgs false
set_option maxRecDepth 100000

set_option maxHeartbeats 1600000 in
theorem cl_af_pan (p q : Nat) (x y : Int) (a0 a1 a : Addr) (W : World) (hs : Snt W a0 a1) (hE : demE a0 a1 [(x, y)] = pan a) (c0 : W.cell? ⟨p, 0, none⟩ = some (.int .i64 x)) (d0 : W.cell? ⟨p, 1, none⟩ = some (.int .i64 y)) :
    Calls Tryd.prog 87 #[.pointer (some ⟨p, 0, none⟩), .pointer (some ⟨q, 0, none⟩)] W fun e w' => e = pan a ∧ Below W.heap.size W w' := by
  have HE := Lib.hid hE
  have HS := Lib.hid hs
  have lp : p < W.heap.size := World.block_lt_of_cell? _ _ c0
  clear hE hs
  go_enter Tryd.func87, Tryd.ntmps87
  go_wp2_with fail
  go_at_call 43
  refine (demand1_any x y a0 a1 _ _ _ _ HE.out (HS.out.below (by (repeat' (first | (with_reducible exact Below.refl _ _) | (with_reducible refine Below.alloc ?_ ?_ _) | (with_reducible refine Below.setCell ?_ ?_ _) | (with_reducible refine Below.drew ?_) | (with_reducible refine below_drewN ?_ _) | (with_reducible assumption) | (with_reducible refine below_after (by with_reducible assumption) ?_) | go_size)))) (by simp) (by go_cell) (by go_cell)).mono ?_
  rintro e w1 ⟨rfl, hb⟩
  have hb2 : Below W.heap.size W w1 := below_after hb (by (repeat' (first | (with_reducible exact Below.refl _ _) | (with_reducible refine Below.alloc ?_ ?_ _) | (with_reducible refine Below.setCell ?_ ?_ _) | (with_reducible refine Below.drew ?_) | (with_reducible refine below_drewN ?_ _) | (with_reducible assumption) | (with_reducible refine below_after (by with_reducible assumption) ?_) | go_size)))
  clear hb
  go_wp2_with fail
  exact ⟨rfl, rfl, hb2⟩
set_option maxHeartbeats 3200000 in
theorem cl_af_ok (p q : Nat) (a b c d x y U V X Y K R1 R2 : Int) (hU : frX (img a b c d x y).1 (img a b c d x y).2 = X) (hV : frY (img a b c d x y).1 (img a b c d x y).2 = Y) (hK : afK a b c d x y X Y = K) (h1 : onz K X = R1) (h2 : onz K Y = R2) (hm : isMx a b c d = true) (hf : allFr [(x, y)] = true) (a0 a1 : Addr) (W : World) (hs : Snt W a0 a1)
    (c0 : W.cell? ⟨p, 0, none⟩ = some (.int .i64 x)) (d0 : W.cell? ⟨p, 1, none⟩ = some (.int .i64 y)) (m0 : W.cell? ⟨q, 0, none⟩ = some (.int .i64 a)) (m1 : W.cell? ⟨q, 1, none⟩ = some (.int .i64 b)) (m2 : W.cell? ⟨q, 2, none⟩ = some (.int .i64 c)) (m3 : W.cell? ⟨q, 3, none⟩ = some (.int .i64 d)) :
    Calls Tryd.prog 87 #[.pointer (some ⟨p, 0, none⟩), .pointer (some ⟨q, 0, none⟩)] W fun e w' => e = .returned (.tuple #[.agg #[.int .i64 R1, .int .i64 R2], .int .i64 K]) ∧ Below W.heap.size W w' := by
  have HE := Lib.hid (demE_yes (a0 := a0) (a1 := a1) hf)
  have HS := Lib.hid hs
  have hff := frs1 hf
  have hp := isFr_pt hff
  obtain ⟨k0, k1⟩ := isMx_pts hm
  have HD := Lib.hid (fun w => determinant_any a b c d w (isPt_bn1 k0) (isPt_bn2 k0) (isPt_bn1 k1) (isPt_bn2 k1))
  have HT := Lib.hid (det_tnB k0 k1)
  have hN : (absI (detP (a, b) (c, d)) == 1) = nearB a b c d := rfl
  have hN2 : (absI (detP (a, b) (c, d)) != 1) = !nearB a b c d := by rw [bne, hN]
  have HA := Lib.hid (fun w => imageOf_any a b c d x y w (isPt_bn1 k0) (isPt_bn2 k0) (isPt_bn1 k1) (isPt_bn2 k1) (isPt_bn1 hp) (isPt_bn2 hp))
  obtain ⟨t1, t2⟩ := img_tn hm hp
  have HF := Lib.hid (fun w => fractionOf_any (img a b c d x y).1 (img a b c d x y).2 w t1 t2)
  rw [hU, hV] at HF
  have lp : p < W.heap.size := World.block_lt_of_cell? _ _ c0
  have lq : q < W.heap.size := World.block_lt_of_cell? _ _ m0
  have HX : Hid (∀ w', Below W.heap.size W w' → w'.cell? ⟨p, 0, none⟩ = some (.int .i64 x) ∧ w'.cell? ⟨p, 1, none⟩ = some (.int .i64 y) ∧ w'.cell? ⟨q, 0, none⟩ = some (.int .i64 a) ∧ w'.cell? ⟨q, 1, none⟩ = some (.int .i64 b) ∧ w'.cell? ⟨q, 2, none⟩ = some (.int .i64 c) ∧ w'.cell? ⟨q, 3, none⟩ = some (.int .i64 d)) := fun w' hw => ⟨(hw.cell (p := ⟨p, 0, none⟩) lp).trans c0, (hw.cell (p := ⟨p, 1, none⟩) lp).trans d0, (hw.cell (p := ⟨q, 0, none⟩) lq).trans m0, (hw.cell (p := ⟨q, 1, none⟩) lq).trans m1, (hw.cell (p := ⟨q, 2, none⟩) lq).trans m2, (hw.cell (p := ⟨q, 3, none⟩) lq).trans m3⟩
  have HC : Hid (isMx a b c d = true ∧ allFr [(x, y)] = true ∧ afK a b c d x y X Y = K) := ⟨hm, hf, hK⟩
  generalize (img a b c d x y).1 = I1 at *
  generalize (img a b c d x y).2 = I2 at *
  generalize detP (a, b) (c, d) = D at *
  clear hs hff hp k0 k1 t1 t2 hm hf hK hU hV
  go_enter Tryd.func87, Tryd.ntmps87
  go_wp2_with fail
  go_at_call 43
  refine (demand1_any x y a0 a1 _ _ _ _ HE.out (HS.out.below (by (repeat' (first | (with_reducible exact Below.refl _ _) | (with_reducible refine Below.alloc ?_ ?_ _) | (with_reducible refine Below.setCell ?_ ?_ _) | (with_reducible refine Below.drew ?_) | (with_reducible refine below_drewN ?_ _) | (with_reducible assumption) | (with_reducible refine below_after (by with_reducible assumption) ?_) | go_size)))) (by simp) (by go_cell) (by go_cell)).mono ?_
  rintro e w1 ⟨rfl, hb⟩
  -- the result's own block
  obtain ⟨wR, hwR⟩ : ∃ wR, wR = W.alloc (.cells #[.int .i64 0, .int .i64 0] 25) := ⟨_, rfl⟩
  have hlR : W.heap.size < wR.heap.size := by rw [hwR]; simp
  have HRR : Hid (wR.cell? ⟨W.heap.size, 0, none⟩ = some (.int .i64 0) ∧ wR.cell? ⟨W.heap.size, 1, none⟩ = some (.int .i64 0) ∧ wR.frozen? ⟨W.heap.size, 0, none⟩ = false ∧ wR.frozen? ⟨W.heap.size, 1, none⟩ = false) := by
    refine ⟨?_, ?_, ?_, ?_⟩ <;> (rw [hwR]; go_cell)
  have HBR : Hid (Below W.heap.size W wR) := by show Below W.heap.size W wR; rw [hwR]; exact (Below.refl _ _).alloc (Nat.le_refl _) _
  have HB1 : Hid (Below wR.heap.size wR w1) := by rw [hwR]; exact al_below hb
  clear hb c0 d0 m0 m1 m2 m3 hwR
  have HY : Hid (∀ w', Below w1.heap.size w1 w' → w'.cell? ⟨p, 0, none⟩ = some (.int .i64 x) ∧ w'.cell? ⟨p, 1, none⟩ = some (.int .i64 y) ∧ w'.cell? ⟨q, 0, none⟩ = some (.int .i64 a) ∧ w'.cell? ⟨q, 1, none⟩ = some (.int .i64 b) ∧ w'.cell? ⟨q, 2, none⟩ = some (.int .i64 c) ∧ w'.cell? ⟨q, 3, none⟩ = some (.int .i64 d) ∧ w'.cell? ⟨W.heap.size, 0, none⟩ = some (.int .i64 0) ∧ w'.cell? ⟨W.heap.size, 1, none⟩ = some (.int .i64 0) ∧ w'.frozen? ⟨W.heap.size, 0, none⟩ = false ∧ w'.frozen? ⟨W.heap.size, 1, none⟩ = false ∧ Below W.heap.size W w') := fun w' hw => by
    have hb := below_after hw HB1.out
    obtain ⟨e0, e1, e2, e3⟩ := HRR.out
    obtain ⟨x0, x1, x2, x3, x4, x5⟩ := HX.out w' (below_after hb HBR.out)
    exact ⟨x0, x1, x2, x3, x4, x5, (hb.cell (p := ⟨W.heap.size, 0, none⟩) hlR).trans e0, (hb.cell (p := ⟨W.heap.size, 1, none⟩) hlR).trans e1, by rw [(bcell hb).2 _ _ hlR]; exact e2, by rw [(bcell hb).2 _ _ hlR]; exact e3, below_after hb HBR.out⟩
  obtain ⟨c0, d0, m0, m1, m2, m3, e0, e1, e2, e3, hbF⟩ := HY.out _ (Below.refl _ _)
  go_wp2_with fail
  go_at_call 89
  refine (HD.out _).mono ?_
  rintro e w2 ⟨rfl, hb⟩
  have HB2 := Lib.hid hb
  clear hb c0 d0 m0 m1 m2 m3 e0 e1 e2 e3 hbF
  go_wp2_with fail
  go_at_call 88
  refine (absolute_any _ _ HT.out).mono ?_
  rintro e w3 ⟨rfl, rfl⟩
  obtain ⟨c0, d0, m0, m1, m2, m3, e0, e1, e2, e3, hbF⟩ := HY.out _ HB2.out
  cases hn : nearB a b c d
  · obtain rfl : 5 = K := (afK_un HC.out.1 HC.out.2.1 hn).symm.trans HC.out.2.2
    obtain rfl : 0 = R1 := (onz_no (by decide)).symm.trans h1
    obtain rfl : 0 = R2 := (onz_no (by decide)).symm.trans h2
    rw [hn] at hN hN2
    go_wp2_with fail
    refine bodyPost_ret (v := .tuple #[.agg #[.int .i64 0, .int .i64 0], .int .i64 5]) (by simp (maxDischargeDepth := 8) [results, Tryd.results87, go_sem, *]) rfl ?_
    exact ⟨rfl, Below.setCell (Below.setCell hbF (Nat.le_refl _) _) (Nat.le_refl _) _⟩
  · rw [hn] at hN hN2
    have HCC : Hid ((isPt (X, Y) = false → K = 3 ∧ R1 = 0 ∧ R2 = 0) ∧ (isPt (X, Y) = true → K = 0 ∧ R1 = X ∧ R2 = Y)) := by
      refine ⟨fun hq => ?_, fun hq => ?_⟩
      · have hk := (afK_big HC.out.1 HC.out.2.1 hn hq).symm.trans HC.out.2.2
        rw [← hk] at h1 h2
        exact ⟨hk.symm, h1.symm.trans (onz_no (by decide)), h2.symm.trans (onz_no (by decide))⟩
      · have hk := (afK_ok HC.out.1 HC.out.2.1 hn hq).symm.trans HC.out.2.2
        rw [← hk] at h1 h2
        exact ⟨hk.symm, h1.symm.trans (onz_yes _), h2.symm.trans (onz_yes _)⟩
    go_wp2_with fail
    go_at_call 80
    refine (HA.out _).mono ?_
    rintro e w4 ⟨rfl, hb⟩
    have HB4 : Hid (Below w1.heap.size w1 w4) := below_after hb HB2.out
    clear hb c0 d0 m0 m1 m2 m3 e0 e1 e2 e3 hbF
    go_wp2_with fail
    go_at_call 79
    refine (HF.out _).mono ?_
    rintro e w5 ⟨rfl, hb⟩
    have HB5 : Hid (Below w1.heap.size w1 w5) := below_after hb HB4.out
    clear hb
    go_wp2_with fail
    cases hq : isPt (X, Y)
    · obtain ⟨rfl, rfl, rfl⟩ := HCC.out.1 hq
      go_at_call 54
      refine (limitedPoint_no _ _ _ hq).mono ?_
      rintro e w6 ⟨rfl, hb⟩
      obtain ⟨c0, d0, m0, m1, m2, m3, e0, e1, e2, e3, hbF⟩ := HY.out _ (below_after hb HB5.out)
      clear hb
      go_wp2_with fail
      refine bodyPost_ret (v := .tuple #[.agg #[.int .i64 0, .int .i64 0], .int .i64 3]) (by simp (maxDischargeDepth := 8) [results, Tryd.results87, go_sem, *]) rfl ?_
      exact ⟨rfl, Below.setCell (Below.setCell hbF (Nat.le_refl _) _) (Nat.le_refl _) _⟩
    · obtain ⟨rfl, rfl, rfl⟩ := HCC.out.2 hq
      go_at_call 54
      refine (limitedPoint_yes _ _ _ hq).mono ?_
      rintro e w6 ⟨rfl, hb⟩
      obtain ⟨c0, d0, m0, m1, m2, m3, e0, e1, e2, e3, hbF⟩ := HY.out _ (below_after hb HB5.out)
      clear hb
      go_wp2_with fail
      refine bodyPost_ret (v := .tuple #[.agg #[.int .i64 R1, .int .i64 R2], .int .i64 0]) (by simp (maxDischargeDepth := 8) [results, Tryd.results87, go_sem, *]) rfl ?_
      exact ⟨rfl, Below.setCell (Below.setCell hbF (Nat.le_refl _) _) (Nat.le_refl _) _⟩
end Go.Proofs.YtcaleapedomfmaaDoor
