/-
  GeodesicOf in the program (own work).
-/
import Derived.Test.YtohnmogejidpdabDoorGeT
import Derived.Test.YtohnmogejidpdabDoorRev
import Derived.Test.YtohnmogejidpdabDoorFdS
import Derived.Test.YtohnmogejidpdabDoorNbGeodesicOf
namespace Go.Proofs.YtohnmogejidpdabDoor
open Go.ChangeShapes Go.WideShapes Go.ChangeAt Go.RowKit Go.Shelf
set_option linter.unusedVariables false
set_option maxRecDepth 100000
set_option linter.unusedSimpArgs false
set_option maxRecDepth 100000

theorem ge_no {a b c d : Int} (h : allFr [(a, b), (c, d)] = true) (hp : isPt (mvX a b c d, mvY a b c d) = false) : geK a b c d = 3 ∧ geL a b c d = [] := by
  have hk : geK a b c d = 3 := by unfold geK; rw [if_pos h, if_neg (by rw [hp]; decide)]
  exact ⟨hk, by unfold geL; rw [hk]; rfl⟩
theorem ge_yes {a b c d : Int} (h : allFr [(a, b), (c, d)] = true) (hp : isPt (mvX a b c d, mvY a b c d) = true) : geK a b c d = 0 := by unfold geK; rw [if_pos h, if_pos hp]
theorem ge_fr {a b c d : Int} (h : allFr [(a, b), (c, d)] = false) : geK a b c d = frE [(a, b), (c, d)] ∧ geL a b c d = [] := by
  have hk : geK a b c d = frE [(a, b), (c, d)] := by unfold geK; rw [if_neg (by rw [h]; decide)]
  exact ⟨hk, by unfold geL; rw [hk, if_neg (frE_ne h)]⟩
set_option maxHeartbeats 6400000 in
theorem cl_GeodesicOf_ok (p q : Nat) (a b c d : Int) (a0 a1 : Addr) (w : World) (hs : Snt w a0 a1) (h : allFr [(a, b), (c, d)] = true) (c0 : w.cell? ⟨p, 0, none⟩ = some (.int .i64 a)) (d0 : w.cell? ⟨p, 1, none⟩ = some (.int .i64 b)) (c1 : w.cell? ⟨q, 0, none⟩ = some (.int .i64 c)) (d1 : w.cell? ⟨q, 1, none⟩ = some (.int .i64 d)) :
    Calls Tryd.prog 31 #[.pointer (some ⟨p, 0, none⟩), .pointer (some ⟨q, 0, none⟩)] w fun e w' => ∃ v, e = .returned (.tuple #[v, .int .i64 (geK a b c d)]) ∧ OwnF w.heap.size w' v (geL a b c d).length (flat (geL a b c d)) ∧ Below w.heap.size w w' := by
  have HE := Lib.hid (demE_yes (a0 := a0) (a1 := a1) h)
  have HSN := Lib.hid hs
  obtain ⟨f0, f1⟩ := frs2 h
  have HF := Lib.hid (fun w => fractionFrom_any a b c d w f0 f1)
  have lp : p < w.heap.size := World.block_lt_of_cell? _ _ c0
  have lq : q < w.heap.size := World.block_lt_of_cell? _ _ c1
  have HX : Hid (∀ w', Below w.heap.size w w' → w'.cell? ⟨p, 0, none⟩ = some (.int .i64 a) ∧ w'.cell? ⟨p, 1, none⟩ = some (.int .i64 b) ∧ w'.cell? ⟨q, 0, none⟩ = some (.int .i64 c) ∧ w'.cell? ⟨q, 1, none⟩ = some (.int .i64 d)) := fun w' hw => ⟨(hw.cell (p := ⟨p, 0, none⟩) lp).trans c0, (hw.cell (p := ⟨p, 1, none⟩) lp).trans d0, (hw.cell (p := ⟨q, 0, none⟩) lq).trans c1, (hw.cell (p := ⟨q, 1, none⟩) lq).trans d1⟩
  obtain ⟨g1, g2, g3⟩ := mv_prim f0 f1
  cases hp : isPt (mvX a b c d, mvY a b c d)
  · rw [(ge_no h hp).1, (ge_no h hp).2]
    have hmk : mvK a b c d = 3 := by unfold mvK; rw [hp]; rfl
    rw [hmk, onz_no (by decide), onz_no (by decide)] at HF
    clear h hs f0 f1 g1 g2 g3 hp hmk
    go_enter Tryd.func31, Tryd.ntmps31
    go_wp2_with fail
    go_at_call 32
    refine (demand2_any a b c d a0 a1 _ _ _ _ HE.out (HSN.out.below (by (repeat' (first | (with_reducible exact Below.refl _ _) | (with_reducible refine Below.alloc ?_ ?_ _) | (with_reducible refine Below.setCell ?_ ?_ _) | (with_reducible refine Below.drew ?_) | (with_reducible refine below_drewN ?_ _) | (with_reducible assumption) | (with_reducible refine below_after (by with_reducible assumption) ?_) | go_size)))) (by simp) (by go_cell) (by go_cell) (by go_cell) (by go_cell)).mono ?_
    rintro e w1 ⟨rfl, hb⟩
    have HB : Hid (Below w.heap.size w w1) := below_after hb (by (repeat' (first | (with_reducible exact Below.refl _ _) | (with_reducible refine Below.alloc ?_ ?_ _) | (with_reducible refine Below.setCell ?_ ?_ _) | (with_reducible refine Below.drew ?_) | (with_reducible refine below_drewN ?_ _) | (with_reducible assumption) | (with_reducible refine below_after (by with_reducible assumption) ?_) | go_size)))
    clear hb c0 d0 c1 d1
    obtain ⟨c0, d0, c1, d1⟩ := HX.out _ HB.out
    go_wp2_with fail
    go_at_call 33
    refine (HF.out _).mono ?_
    rintro e w2 ⟨rfl, hb⟩
    have HB := Lib.hid (below_after hb HB.out)
    clear hb c0 d0 c1 d1
    have hbF := HB.out
    have hzF := hbF.size
    go_wp2_with fail
    go_ret2
    exact ⟨_, rfl, World.ownsRow_nil _ _ _ _, by (repeat' (first | (with_reducible exact Below.refl _ _) | (with_reducible refine Below.alloc ?_ ?_ _) | (with_reducible refine Below.setCell ?_ ?_ _) | (with_reducible refine Below.drew ?_) | (with_reducible refine below_drewN ?_ _) | (with_reducible assumption) | (with_reducible refine below_after (by with_reducible assumption) ?_) | go_size))⟩
  · have hk := ge_yes h hp
    rw [hk, geL_impl f0 f1 hk hp]
    have hmk : mvK a b c d = 0 := by unfold mvK; rw [hp]; rfl
    rw [hmk, onz_yes, onz_yes] at HF
    have q1 := isPt_c1 hp
    have q2 := isPt_c2 hp
    have HM0 := Lib.hid (fun w => matrixTo_any a b w f0)
    have HBA : Hid (∀ x y, Cn x → Cn y → (∀ w, Calls Tryd.prog 37 #[.agg #[.int .i64 a, .int .i64 (mateI a b).1, .int .i64 b, .int .i64 (mateI a b).2], .agg #[.int .i64 x, .int .i64 y]] w fun e w' => e = .returned (.agg #[.int .i64 (a * x + (mateI a b).1 * y), .int .i64 (b * x + (mateI a b).2 * y)]) ∧ Below w.heap.size w w') ∧ (∀ w, Calls Tryd.prog 36 #[.agg #[.int .i64 (a * x + (mateI a b).1 * y), .int .i64 (b * x + (mateI a b).2 * y)]] w fun e w' => e = .returned (.agg #[.int .i64 (bkT a b x y).1, .int .i64 (bkT a b x y).2]) ∧ Below w.heap.size w w')) := by
      intro x y hx hy
      obtain ⟨b1, b2, b3, b4, b5, b6, t1, t2⟩ := bk_ok f0 hx hy
      exact ⟨fun w => imageOf_any _ _ _ _ _ _ w b1 b2 b3 b4 b5 b6, fun w => fractionOf_any _ _ w t1 t2⟩
    have HQ0 : Hid (Qn (mvX a b c d) (mvY a b c d)) := by
      show _ ∨ _
      rcases Int.lt_or_le 0 (mvY a b c d) with hz | hz
      · exact .inr ⟨isFr_of q1 ⟨by omega, q2.2⟩ g1, by omega⟩
      · left; omega
    obtain ⟨LL, hLL⟩ : ∃ LL, (c, d) :: iw (bkT a b) (mvY a b c d).toNat (mvX a b c d) (mvY a b c d) = LL := ⟨_, rfl⟩
    have HLN : Hid (LL.length ≤ 1000002) := by
      show _ ≤ _
      rw [← hLL, List.length_cons]
      have := iw_len (bkT a b) (mvY a b c d).toNat (mvX a b c d) (mvY a b c d)
      omega
    have HNE : Hid (1 ≤ LL.length) := by show _ ≤ _; rw [← hLL]; simp
    rw [hLL]
    have HLL : Hid ([(c, d)] ++ iw (bkT a b) (mvY a b c d).toNat (mvX a b c d) (mvY a b c d) = LL) := hLL
    generalize (mateI a b).1 = U at *
    generalize (mateI a b).2 = V at *
    generalize bkT a b = T at *
    generalize mvX a b c d = X at *
    generalize mvY a b c d = Y at *
    clear h hs f0 f1 g1 g3 hp hk hmk q1 q2 hLL
    go_enter Tryd.func31, Tryd.ntmps31
    go_wp2_with fail
    go_at_call 32
    refine (demand2_any a b c d a0 a1 _ _ _ _ HE.out (HSN.out.below (by (repeat' (first | (with_reducible exact Below.refl _ _) | (with_reducible refine Below.alloc ?_ ?_ _) | (with_reducible refine Below.setCell ?_ ?_ _) | (with_reducible refine Below.drew ?_) | (with_reducible refine below_drewN ?_ _) | (with_reducible assumption) | (with_reducible refine below_after (by with_reducible assumption) ?_) | go_size)))) (by simp) (by go_cell) (by go_cell) (by go_cell) (by go_cell)).mono ?_
    rintro e w1 ⟨rfl, hb⟩
    have HB : Hid (Below w.heap.size w w1) := below_after hb (by (repeat' (first | (with_reducible exact Below.refl _ _) | (with_reducible refine Below.alloc ?_ ?_ _) | (with_reducible refine Below.setCell ?_ ?_ _) | (with_reducible refine Below.drew ?_) | (with_reducible refine below_drewN ?_ _) | (with_reducible assumption) | (with_reducible refine below_after (by with_reducible assumption) ?_) | go_size)))
    clear hb c0 d0 c1 d1
    obtain ⟨c0, d0, c1, d1⟩ := HX.out _ HB.out
    go_wp2_with fail
    go_at_call 33
    refine (HF.out _).mono ?_
    rintro e w2 ⟨rfl, hb⟩
    have HB := Lib.hid (below_after hb HB.out)
    clear hb c0 d0 c1 d1
    go_upto_region 5 with fail
    obtain ⟨GS, hGS⟩ : ∃ g, w2.heap.size = g := ⟨_, rfl⟩
    obtain ⟨w21, hw21⟩ : ∃ wx, wx = w2.alloc (.cells #[.int .i64 X, .int .i64 Y] 23) := ⟨_, rfl⟩
    rw [← hw21, hGS]
    have HS : Hid (Bk2 w21 GS X Y) := by rw [hw21, ← hGS]; exact bk2_new w2 X Y _
    have le_S : w.heap.size ≤ GS := by rw [← hGS]; exact HB.out.size
    have HB := Lib.hid (Below.alloc HB.out HB.out.size (.cells #[.int .i64 X, .int .i64 Y] 23))
    rw [← hw21] at HB
    clear hw21 hGS
    obtain ⟨c0, d0, c1, d1⟩ := HX.out _ HB.out
    obtain ⟨⟨qS0, qS1⟩, ⟨fS0, fS1⟩, zS⟩ := HS.out
    go_wp2_with fail
    go_at_call 34
    refine (HM0.out _).mono ?_
    rintro e w22 ⟨rfl, hb⟩
    clear qS0 fS0 qS1 fS1 zS
    have HS := Lib.hid (HS.out.below hb)
    have HB := Lib.hid (below_after hb HB.out)
    clear hb
    clear c0 d0 c1 d1
    have lt_S0 := HS.out.2.2
    obtain ⟨⟨qS0, qS1⟩, ⟨fS0, fS1⟩, zS⟩ := HS.out
    go_upto_region 6 with fail
    obtain ⟨GM, hGM⟩ : ∃ g, w22.heap.size = g := ⟨_, rfl⟩
    obtain ⟨w23, hw23⟩ : ∃ wx, wx = w22.alloc (.cells #[.int .i64 a, .int .i64 U, .int .i64 b, .int .i64 V] 51) := ⟨_, rfl⟩
    rw [← hw23, hGM]
    have HM : Hid (Bk4 w23 GM a U b V) := by rw [hw23, ← hGM]; exact bk4_new w22 a U b V _
    have le_M : w.heap.size ≤ GM := by rw [← hGM]; exact HB.out.size
    have ne_M_S : GM ≠ GS := by have := HS.out.2.2; omega
    have ne_S_M : GS ≠ GM := Ne.symm ne_M_S
    clear qS0 fS0 qS1 fS1 zS
    have HS := Lib.hid (HS.out.below ((Below.refl _ _).alloc (Nat.le_refl _) (.cells #[.int .i64 a, .int .i64 U, .int .i64 b, .int .i64 V] 51)))
    have HB := Lib.hid (Below.alloc HB.out HB.out.size (.cells #[.int .i64 a, .int .i64 U, .int .i64 b, .int .i64 V] 51))
    rw [← hw23] at HS HB
    rw [hGM] at lt_S0
    clear hw23 hGM
    obtain ⟨⟨qS0, qS1⟩, ⟨fS0, fS1⟩, zS⟩ := HS.out
    obtain ⟨⟨qM0, qM1, qM2, qM3⟩, ⟨fM0, fM1, fM2, fM3⟩, zM⟩ := HM.out
    obtain ⟨c0, d0, c1, d1⟩ := HX.out _ HB.out
    go_wp2_with fail
    clear c0 d0 c1 d1
    clear qS0 fS0 qS1 fS1 zS qM0 fM0 qM1 fM1 qM2 fM2 qM3 fM3 zM
    have HO : Hid (OwnF (GM + 1) (w23.alloc (.cells #[.int .i64 c, .int .i64 d] 23)) (.slice (some ⟨w23.heap.size, 0, none⟩) 1 1) 1 (flat [(c, d)])) := by
      show OwnF _ _ _ _ _
      exact World.ownsRow_lit w23 #[.int .i64 c, .int .i64 d] 1 (by have := HM.out.2.2; omega) (by decide) rfl
    have HS := Lib.hid (HS.out.below ((Below.refl _ _).alloc (Nat.le_refl _) (.cells #[.int .i64 c, .int .i64 d] 23)))
    have HM := Lib.hid (HM.out.below ((Below.refl _ _).alloc (Nat.le_refl _) (.cells #[.int .i64 c, .int .i64 d] 23)))
    have HB := Lib.hid (Below.alloc HB.out HB.out.size (.cells #[.int .i64 c, .int .i64 d] 23))
    have lt_SM : GS < GM := lt_S0
    go_loopw [7] (fun v wr => ∃ (f n : Nat) (va : Option Addr) (vc : Nat) (x y : Int) (L : List (Int × Int)), v = .slice va n vc ∧ L.length = n ∧ OwnF (GM + 1) wr (.slice va n vc) n (flat L) ∧ Bk2 wr GS x y ∧ Bk4 wr GM a U b V ∧ Below w.heap.size w wr ∧ Qn x y ∧ y ≤ (f : Int) ∧ L ++ iw T f x y = LL) (fun _ wr => (ivOf (wr.cell? ⟨GS, 1, none⟩)).toNat)
    case atStart => exact ⟨Y.toNat, 1, _, _, X, Y, [(c, d)], rfl, rfl, HO.out, HS.out, HM.out, HB.out, HQ0.out, by omega, HLL.out⟩
    case round =>
      obtain ⟨f, n, va, vc, x, y, L, rfl, hn, ho, hS, hM, hbel, hq, hyf, hiw⟩ := hrel
      clear HS HM HB HO
      have HS := Lib.hid hS
      have HM := Lib.hid hM
      have HB := Lib.hid hbel
      have HO := Lib.hid ho
      have HIW := Lib.hid hiw
      have hll : n ≤ 1000002 := by
        have h1 := HLN.out
        rw [← hiw, List.length_append] at h1
        omega
      clear hS hM hbel ho hiw
      by_cases hy : 0 < y
      · have hyd : decide (0 < y) = true := by simpa using hy
        obtain ⟨hF, h1⟩ : isFr x y = true ∧ 1 ≤ y := by
          rcases hq with h | h
          · omega
          · exact h
        obtain ⟨n1, n2, n3, n4, n5⟩ := nx_ok hF h1
        have HNX := Lib.hid (fun w => next_any x y w hF h1)
        have HBK := Lib.hid (HBA.out _ _ n4 n5)
        obtain ⟨f, rfl⟩ : ∃ m, f = m + 1 := ⟨f - 1, by omega⟩
        have HI2 : Hid ((L ++ [T (nxX x y) (nxY x y)]) ++ iw T f (nxX x y) (nxY x y) = LL) := by
          show _ = _
          rw [← HIW.out, iw_go _ hy, List.append_assoc]; rfl
        have HN1 := Lib.hid n1
        obtain ⟨⟨t0, t1⟩, hT⟩ : ∃ p, T (nxX x y) (nxY x y) = p := ⟨_, rfl⟩
        rw [hT] at HBK HI2
        generalize nxX x y = NX at *
        generalize nxY x y = NY at *
        clear hT HIW hF n1 n4 n5 hq
        have hnoS : ∀ k, (Value.slice va n vc).ownBlock = some k → k ≠ GS := fun k hk => by have := (World.ownsRow.lt HO.out k hk).1; omega
        have hS1 := HS.out.1.2
        have ne_S_M : GS ≠ GM := by omega
        have ne_M_S : GM ≠ GS := by omega
        obtain ⟨⟨qS0, qS1⟩, ⟨fS0, fS1⟩, zS⟩ := HS.out
        obtain ⟨⟨qM0, qM1, qM2, qM3⟩, ⟨fM0, fM1, fM2, fM3⟩, zM⟩ := HM.out
        go_wp2_with fail
        go_at_call 35
        refine (HNX.out _).mono ?_
        rintro e w21 ⟨rfl, hb⟩
        clear qS0 fS0 qS1 fS1 zS qM0 fM0 qM1 fM1 qM2 fM2 qM3 fM3 zM
        have HS := Lib.hid (HS.out.below hb)
        have HM := Lib.hid (HM.out.below hb)
        have HO := Lib.hid (HO.out.below hb)
        have HB := Lib.hid (below_after hb HB.out)
        clear hb
        obtain ⟨⟨qS0, qS1⟩, ⟨fS0, fS1⟩, zS⟩ := HS.out
        obtain ⟨⟨qM0, qM1, qM2, qM3⟩, ⟨fM0, fM1, fM2, fM3⟩, zM⟩ := HM.out
        go_upto_region 9 with fail
        obtain ⟨w22, hw22⟩ : ∃ wx, wx = ((w21.setCell ⟨GS, 0, none⟩ (.int .i64 NX)).setCell ⟨GS, 1, none⟩ (.int .i64 NY)) := ⟨_, rfl⟩
        rw [← hw22]
        clear qS0 fS0 qS1 fS1 zS qM0 fM0 qM1 fM1 qM2 fM2 qM3 fM3 zM
        have HM := Lib.hid ((HM.out.far ⟨GS, 0, none⟩ (.int .i64 NX) (by show GM ≠ GS; exact ne_M_S)).far ⟨GS, 1, none⟩ (.int .i64 NY) (by show GM ≠ GS; exact ne_M_S))
        have HS := Lib.hid ((HS.out.set0 NX).set1 NY)
        have HB := Lib.hid (Below.setCell (Below.setCell HB.out (p := ⟨GS, 0, none⟩) le_S (.int .i64 NX)) (p := ⟨GS, 1, none⟩) le_S (.int .i64 NY))
        have HO := Lib.hid (set_ownF (set_ownF HO.out (g := GS) 0 (.int .i64 NX) hnoS) (g := GS) 1 (.int .i64 NY) hnoS)
        rw [← hw22] at HS HM HB HO
        clear hw22
        obtain ⟨⟨qS0, qS1⟩, ⟨fS0, fS1⟩, zS⟩ := HS.out
        obtain ⟨⟨qM0, qM1, qM2, qM3⟩, ⟨fM0, fM1, fM2, fM3⟩, zM⟩ := HM.out
        go_wp2_with fail
        go_at_call 37
        refine (HBK.out.1 _).mono ?_
        rintro e w23 ⟨rfl, hb⟩
        clear qS0 fS0 qS1 fS1 zS qM0 fM0 qM1 fM1 qM2 fM2 qM3 fM3 zM
        have HS := Lib.hid (HS.out.below hb)
        have HM := Lib.hid (HM.out.below hb)
        have HO := Lib.hid (HO.out.below hb)
        have HB := Lib.hid (below_after hb HB.out)
        clear hb
        obtain ⟨⟨qS0, qS1⟩, ⟨fS0, fS1⟩, zS⟩ := HS.out
        obtain ⟨⟨qM0, qM1, qM2, qM3⟩, ⟨fM0, fM1, fM2, fM3⟩, zM⟩ := HM.out
        go_wp2_with fail
        go_at_call 36
        refine (HBK.out.2 _).mono ?_
        rintro e w24 ⟨rfl, hb⟩
        clear qS0 fS0 qS1 fS1 zS qM0 fM0 qM1 fM1 qM2 fM2 qM3 fM3 zM
        have HS := Lib.hid (HS.out.below hb)
        have HM := Lib.hid (HM.out.below hb)
        have HO := Lib.hid (HO.out.below hb)
        have HB := Lib.hid (below_after hb HB.out)
        clear hb
        obtain ⟨⟨qS0, qS1⟩, ⟨fS0, fS1⟩, zS⟩ := HS.out
        obtain ⟨⟨qM0, qM1, qM2, qM3⟩, ⟨fM0, fM1, fM2, fM3⟩, zM⟩ := HM.out
        have HOq := Lib.hid (HO.out.below ((Below.refl _ _).alloc (Nat.le_refl _) (.cells #[.int .i64 t0, .int .i64 t1] 23)))
        have HSq := Lib.hid (HS.out.below ((Below.refl _ _).alloc (Nat.le_refl _) (.cells #[.int .i64 t0, .int .i64 t1] 23)))
        have HMq := Lib.hid (HM.out.below ((Below.refl _ _).alloc (Nat.le_refl _) (.cells #[.int .i64 t0, .int .i64 t1] 23)))
        have HBq := Lib.hid (Below.alloc HB.out HB.out.size (.cells #[.int .i64 t0, .int .i64 t1] 23))
        have HGB : Hid (GM + 1 ≤ (w24.alloc (.cells #[.int .i64 t0, .int .i64 t1] 23)).heap.size) := by show _ ≤ _; rw [World.size_alloc]; have := HM.out.2.2; omega
        go_wp2_with (at_builtin; refine wpList_app_P (B := GM + 1) rfl _ _ rfl HOq.out (a0 := t0) (a1 := t1) ?c0 ?c1 HGB.out rfl rfl (by omega) ?_)
        case c0 => exact (show _ = some (Value.int .i64 t0) by go_cell)
        case c1 => exact (show _ = some (Value.int .i64 t1) by go_cell)
        intro v5 w5 ho hgrow
        clear qS0 fS0 qS1 fS1 zS qM0 fM0 qM1 fM1 qM2 fM2 qM3 fM3 zM
        have hno : ∀ k, (Value.slice va n vc).ownBlock = some k → GM + 1 ≤ k := fun k hk => (World.ownsRow.lt HOq.out k hk).1
        have HS := Lib.hid (HSq.out.grown hgrow (fun e => by have := hno GS e; omega))
        have HM := Lib.hid (HMq.out.grown hgrow (fun e => by have := hno GM e; omega))
        have HB := Lib.hid (Below.grown HBq.out hgrow HBq.out.size (fun k hk => by have := hno k hk; omega))
        obtain ⟨va5, vc5, rfl, _⟩ := own_viewF ho
        have HO : Hid (OwnF (GM + 1) w5 (.slice va5 (n + 1) vc5) (n + 1) (flat (L ++ [(t0, t1)]))) := by
          show OwnF _ _ _ _ _
          rw [flat_append]; exact ho
        have hS2 := HS.out.1.2
        clear ho hgrow hno HOq HSq HMq HBq HGB
        go_wp2_with fail
        go_roundw
        case rel => exact ⟨f, n + 1, va5, vc5, NX, NY, L ++ [(t0, t1)], rfl, by rw [List.length_append, hn]; rfl, HO.out, HS.out, HM.out, HB.out, HN1.out, by omega, HI2.out⟩
        case measure => rw [hS1, hS2]; simp only [ivOf]; omega
      · have hy0 : y = 0 := by
          rcases hq with h | h
          · exact h
          · omega
        have hyd : decide (0 < y) = false := by simpa using hy
        subst hy0
        have hLL : L = LL := by
          have := HIW.out
          rwa [iw_end, List.append_nil] at this
        subst hLL
        obtain ⟨⟨qS0, qS1⟩, ⟨fS0, fS1⟩, zS⟩ := HS.out
        obtain ⟨⟨qM0, qM1, qM2, qM3⟩, ⟨fM0, fM1, fM2, fM3⟩, zM⟩ := HM.out
        obtain ⟨_, _, he, hc⟩ := own_viewF HO.out
        have hn1 : 1 ≤ n := by
          have := HNE.out
          omega
        obtain ⟨g, ha, hg1, _⟩ := hc hn1
        simp only [Value.slice.injEq, true_and] at he
        obtain ⟨he1, he2⟩ := he
        rw [← he1] at ha
        subst ha
        clear he1 he2 hc
        go_wp2_with fail
        go_at_call 38
        refine (reverse_any (GM + 1) g n vc L _ HO.out hn hn1 (by omega)).mono ?_
        rintro e w6 ⟨rfl, ho6, hgr⟩
        have HB6 := Lib.hid (Below.grown HB.out hgr HB.out.size (fun k hk => by simp only [Option.some.injEq] at hk; omega))
        have HO6 := Lib.hid ho6
        clear ho6 hgr
        clear qS0 fS0 qS1 fS1 zS qM0 fM0 qM1 fM1 qM2 fM2 qM3 fM3 zM
        go_wp2_with fail
        go_ret2
        have hlen : L.reverse.length = n := by rw [List.length_reverse, hn]
        rw [hlen]
        exact ⟨_, rfl, own_up HO6.out (show w.heap.size ≤ GM + 1 by omega), HB6.out⟩
theorem impl_GeodesicOf_any (a b c d : Int) (a0 a1 : Addr) (w : World) (hs : Snt w a0 a1) :
    Calls Tryd.prog 10 #[.agg #[.int .i64 a, .int .i64 b], .agg #[.int .i64 c, .int .i64 d]] w fun e w' => ∃ v, e = .returned (.tuple #[v, .int .i64 (geK a b c d)]) ∧ OwnF w.heap.size w' v (geL a b c d).length (flat (geL a b c d)) ∧ Below w.heap.size w w' := by
  cases h : allFr [(a, b), (c, d)]
  · rw [(ge_fr h).1, (ge_fr h).2]
    refine (impl_GeodesicOf_fail a b c d _ a0 a1 w hs h rfl).mono ?_
    rintro e w1 ⟨rfl, hb⟩
    exact ⟨_, rfl, World.ownsRow_nil _ _ _ _, hb⟩
  · exact impl_GeodesicOf_of a b c d _ _ _ a0 a1 w hs (fun p q W hs c0 d0 c1 d1 => cl_GeodesicOf_ok p q a b c d a0 a1 W hs h c0 d0 c1 d1)
end Go.Proofs.YtohnmogejidpdabDoor
