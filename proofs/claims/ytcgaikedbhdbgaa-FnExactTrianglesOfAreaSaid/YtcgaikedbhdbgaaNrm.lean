/-
  NormalShape in the program and in the model (own work).
-/
import Derived.Test.YtcgaikedbhdbgaaShp
import Derived.Test.YtcgaikedbhdbgaaOwn
namespace Go.Proofs.Ytcgaikedbhdbgaa
open Go.ChangeShapes Go.WideShapes Go.ChangeAt Go.RowKit
set_option linter.unusedVariables false
set_option maxRecDepth 100000
set_option linter.unusedSimpArgs false
set_option maxRecDepth 100000

def nkL (x0 y0 x1 y1 x2 y2 : Int) : List Int := [(keyT x0 y0 x1 y1 x2 y2), (keyT x0 y0 x2 y2 x1 y1), (keyT x1 y1 x2 y2 x0 y0), (keyT x1 y1 x0 y0 x2 y2), (keyT x2 y2 x0 y0 x1 y1), (keyT x2 y2 x1 y1 x0 y0)]
/-- The key of the normal shape. -/
def nK (x0 y0 x1 y1 x2 y2 : Int) : Int := minN (nkL x0 y0 x1 y1 x2 y2) 5
theorem siK_ge {x0 y0 x1 y1 x2 y2 : Int} (h : isT x0 y0 x1 y1 x2 y2 = true) (i j : Nat) (hi : i < 3) (hj : j < 3) (hij : i ≠ j) : 0 ≤ siK x0 y0 x1 y1 x2 y2 i j := by
  have hc : (i = 0 ∧ j = 1) ∨ (i = 0 ∧ j = 2) ∨ (i = 1 ∧ j = 2) ∨ (i = 1 ∧ j = 0) ∨ (i = 2 ∧ j = 0) ∨ (i = 2 ∧ j = 1) := by omega
  rcases hc with ⟨rfl, rfl⟩ | ⟨rfl, rfl⟩ | ⟨rfl, rfl⟩ | ⟨rfl, rfl⟩ | ⟨rfl, rfl⟩ | ⟨rfl, rfl⟩
  · exact (key_parts h).2.2.2
  · exact (key_parts (isT_sw h)).2.2.2
  · exact (key_parts (isT_rot h)).2.2.2
  · exact (key_parts (isT_sw (isT_rot h))).2.2.2
  · exact (key_parts (isT_rot (isT_rot h))).2.2.2
  · exact (key_parts (isT_sw (isT_rot (isT_rot h)))).2.2.2
theorem l04Shape_si (x0 y0 x1 y1 x2 y2 : Int) (i j : Nat) (w : World) (hi : i < 3) (hj : j < 3) (hij : i ≠ j) (h : isT x0 y0 x1 y1 x2 y2 = true) : Calls Try.prog 82 #[.agg #[.int .i64 x0, .int .i64 y0, .int .i64 x1, .int .i64 y1, .int .i64 x2, .int .i64 y2], .int .i64 (i : Int), .int .i64 (j : Int)] w fun e w' => e = .returned (.agg #[.int .i64 (enL (siK x0 y0 x1 y1 x2 y2 i j)), .int .i64 (enP (siK x0 y0 x1 y1 x2 y2 i j)), .int .i64 (enH (areaP (x0, y0) (x1, y1) (x2, y2)) (siK x0 y0 x1 y1 x2 y2 i j))]) ∧ Below w.heap.size w w' := by
  have hc : (i = 0 ∧ j = 1) ∨ (i = 0 ∧ j = 2) ∨ (i = 1 ∧ j = 2) ∨ (i = 1 ∧ j = 0) ∨ (i = 2 ∧ j = 0) ∨ (i = 2 ∧ j = 1) := by omega
  rcases hc with ⟨rfl, rfl⟩ | ⟨rfl, rfl⟩ | ⟨rfl, rfl⟩ | ⟨rfl, rfl⟩ | ⟨rfl, rfl⟩ | ⟨rfl, rfl⟩
  · exact l04Shape_01 x0 y0 x1 y1 x2 y2 w h
  · exact l04Shape_02 x0 y0 x1 y1 x2 y2 w h
  · exact l04Shape_12 x0 y0 x1 y1 x2 y2 w h
  · exact l04Shape_10 x0 y0 x1 y1 x2 y2 w h
  · exact l04Shape_20 x0 y0 x1 y1 x2 y2 w h
  · exact l04Shape_21 x0 y0 x1 y1 x2 y2 w h
/-- The model's running least key. -/
def stp (x0 y0 x1 y1 x2 y2 : Int) (i : Nat) (m : Int) (j : Nat) : Int := if i = j then m else min m (siK x0 y0 x1 y1 x2 y2 i j)
def rowM (x0 y0 x1 y1 x2 y2 : Int) (i : Nat) (m : Int) : Nat → Int
  | 0 => m
  | j + 1 => stp x0 y0 x1 y1 x2 y2 i (rowM x0 y0 x1 y1 x2 y2 i m j) j
def allM (x0 y0 x1 y1 x2 y2 : Int) : Nat → Int
  | 0 => (keyT x0 y0 x1 y1 x2 y2)
  | i + 1 => rowM x0 y0 x1 y1 x2 y2 i (allM x0 y0 x1 y1 x2 y2 i) 3
theorem allM_3 (x0 y0 x1 y1 x2 y2 : Int) : allM x0 y0 x1 y1 x2 y2 3 = nK x0 y0 x1 y1 x2 y2 := by
  have e1 : allM x0 y0 x1 y1 x2 y2 3 = min (min (min (min (min (min (keyT x0 y0 x1 y1 x2 y2) (keyT x0 y0 x1 y1 x2 y2)) (keyT x0 y0 x2 y2 x1 y1)) (keyT x1 y1 x0 y0 x2 y2)) (keyT x1 y1 x2 y2 x0 y0)) (keyT x2 y2 x0 y0 x1 y1)) (keyT x2 y2 x1 y1 x0 y0) := rfl
  have e2 : nK x0 y0 x1 y1 x2 y2 = min (min (min (min (min (keyT x0 y0 x1 y1 x2 y2) (keyT x0 y0 x2 y2 x1 y1)) (keyT x1 y1 x2 y2 x0 y0)) (keyT x1 y1 x0 y0 x2 y2)) (keyT x2 y2 x0 y0 x1 y1)) (keyT x2 y2 x1 y1 x0 y0) := rfl
  rw [e1, e2]
  generalize (keyT x0 y0 x1 y1 x2 y2) = a0
  generalize (keyT x0 y0 x2 y2 x1 y1) = a1
  generalize (keyT x1 y1 x2 y2 x0 y0) = a2
  generalize (keyT x1 y1 x0 y0 x2 y2) = a3
  generalize (keyT x2 y2 x0 y0 x1 y1) = a4
  generalize (keyT x2 y2 x1 y1 x0 y0) = a5
  omega
theorem rowM_ge {x0 y0 x1 y1 x2 y2 : Int} (h : isT x0 y0 x1 y1 x2 y2 = true) {i : Nat} {m : Int} (hi : i < 3) (hm : 0 ≤ m) : ∀ j : Nat, j ≤ 3 → 0 ≤ rowM x0 y0 x1 y1 x2 y2 i m j
  | 0, _ => hm
  | j + 1, hj => by
    have ih := rowM_ge h hi hm j (by omega)
    show 0 ≤ stp x0 y0 x1 y1 x2 y2 i (rowM x0 y0 x1 y1 x2 y2 i m j) j
    unfold stp
    split
    · exact ih
    · next hne =>
      have := siK_ge h i j hi (by omega) hne
      omega
theorem allM_ge {x0 y0 x1 y1 x2 y2 : Int} (h : isT x0 y0 x1 y1 x2 y2 = true) : ∀ i : Nat, i ≤ 3 → 0 ≤ allM x0 y0 x1 y1 x2 y2 i
  | 0, _ => siK_ge h 0 1 (by decide) (by decide) (by decide)
  | i + 1, hi => rowM_ge h (by omega) (allM_ge h i (by omega)) 3 (Nat.le_refl _)
theorem nkL_ge {x0 y0 x1 y1 x2 y2 : Int} (h : isT x0 y0 x1 y1 x2 y2 = true) : ∀ i, i < (nkL x0 y0 x1 y1 x2 y2).length → 0 ≤ (nkL x0 y0 x1 y1 x2 y2).getD i 0 := by
  intro i hi
  have hi : i < 6 := hi
  have hc : i = 0 ∨ i = 1 ∨ i = 2 ∨ i = 3 ∨ i = 4 ∨ i = 5 := by omega
  rcases hc with rfl | rfl | rfl | rfl | rfl | rfl
  · exact (key_parts h).2.2.2
  · exact (key_parts (isT_sw h)).2.2.2
  · exact (key_parts (isT_rot h)).2.2.2
  · exact (key_parts (isT_sw (isT_rot h))).2.2.2
  · exact (key_parts (isT_rot (isT_rot h))).2.2.2
  · exact (key_parts (isT_sw (isT_rot (isT_rot h)))).2.2.2
set_option maxHeartbeats 8000000 in
theorem l04Normal_tri (x0 y0 x1 y1 x2 y2 : Int) (w : World) (h : isT x0 y0 x1 y1 x2 y2 = true) : Calls Try.prog 84 #[.agg #[.int .i64 x0, .int .i64 y0, .int .i64 x1, .int .i64 y1, .int .i64 x2, .int .i64 y2]] w fun e w' => e = .returned (.agg #[.int .i64 (enL (nK x0 y0 x1 y1 x2 y2)), .int .i64 (enP (nK x0 y0 x1 y1 x2 y2)), .int .i64 (enH (areaP (x0, y0) (x1, y1) (x2, y2)) (nK x0 y0 x1 y1 x2 y2))]) ∧ Below w.heap.size w w' := by
  have HT := Lib.hid h
  clear h
  go_enter Try.func84, Try.ntmps84
  go_upto_region 1 with fail
  obtain ⟨wB, hwB⟩ : ∃ wB, wB = (w.alloc (.cells #[.int .i64 x0, .int .i64 y0, .int .i64 x1, .int .i64 y1, .int .i64 x2, .int .i64 y2] 27)).alloc (.cells #[.int .i64 0, .int .i64 0, .int .i64 0] 49) := ⟨_, rfl⟩
  rw [← hwB]
  have h6 : Bk6 wB w.heap.size x0 y0 x1 y1 x2 y2 := by rw [hwB]; exact (bk6_new w x0 y0 x1 y1 x2 y2 _).below ((Below.refl _ _).alloc (Nat.le_refl _) _)
  have h3 : Bk3 wB (w.heap.size + 1) 0 0 0 := by
    rw [hwB]
    have h := bk3_new (w.alloc (.cells #[.int .i64 x0, .int .i64 y0, .int .i64 x1, .int .i64 y1, .int .i64 x2, .int .i64 y2] 27)) 0 0 0 49
    rw [World.size_alloc] at h
    exact h
  have HBW : Hid (Below w.heap.size w wB) := by
    show Below w.heap.size w wB
    rw [hwB]; (repeat' (first | (with_reducible exact Below.refl _ _) | (with_reducible refine Below.alloc ?_ ?_ _) | (with_reducible refine Below.setCell ?_ ?_ _) | (with_reducible refine Below.drew ?_) | (with_reducible refine below_drewN ?_ _) | (with_reducible assumption) | (with_reducible refine below_after (by with_reducible assumption) ?_) | go_size))
  have HX : Hid (∀ W, Below wB.heap.size wB W → Bk6 W w.heap.size x0 y0 x1 y1 x2 y2 ∧ Bk3 W (w.heap.size + 1) 0 0 0) := fun W hW => ⟨h6.below hW, h3.below hW⟩
  have hbs : w.heap.size + 1 < wB.heap.size := h3.2.2
  clear hwB h6 h3
  obtain ⟨⟨⟨i0, i1, i2, i3, i4, i5⟩, _, iz⟩, _⟩ := HX.out wB (Below.refl _ _)
  go_wp2_with fail
  go_at_call 82
  refine (l04Shape_01 _ _ _ _ _ _ _ HT.out).mono ?_
  rintro e w1 ⟨rfl, b1⟩
  clear i0 i1 i2 i3 i4 i5 iz
  go_upto_region 2 with fail
  obtain ⟨G, hG⟩ : ∃ G, w1.heap.size = G := ⟨_, rfl⟩
  obtain ⟨wC, hwC⟩ : ∃ wC, wC = w1.alloc (.cells #[.int .i64 (enL (keyT x0 y0 x1 y1 x2 y2)), .int .i64 (enP (keyT x0 y0 x1 y1 x2 y2)), .int .i64 (enH (areaP (x0, y0) (x1, y1) (x2, y2)) (keyT x0 y0 x1 y1 x2 y2))] 49) := ⟨_, rfl⟩
  rw [← hwC, hG]
  have h3 : Bk3 wC G (enL (keyT x0 y0 x1 y1 x2 y2)) (enP (keyT x0 y0 x1 y1 x2 y2)) (enH (areaP (x0, y0) (x1, y1) (x2, y2)) (keyT x0 y0 x1 y1 x2 y2)) := by rw [hwC, ← hG]; exact bk3_new w1 (enL (keyT x0 y0 x1 y1 x2 y2)) (enP (keyT x0 y0 x1 y1 x2 y2)) (enH (areaP (x0, y0) (x1, y1) (x2, y2)) (keyT x0 y0 x1 y1 x2 y2)) _
  have hbC : Below wB.heap.size wB wC := by rw [hwC]; exact b1.alloc b1.size _
  have hGB : wB.heap.size ≤ G := by rw [← hG]; exact b1.size
  clear hwC b1 hG
  go_wp2_with fail
  go_loopw [4] (fun iv wr => ∃ i : Nat, i ≤ 3 ∧ iv = .int .i64 i ∧ Bk3 wr G (enL (allM x0 y0 x1 y1 x2 y2 i)) (enP (allM x0 y0 x1 y1 x2 y2 i)) (enH (areaP (x0, y0) (x1, y1) (x2, y2)) (allM x0 y0 x1 y1 x2 y2 i)) ∧ Below wB.heap.size wB wr) (fun iv _ => 3 - (intOf iv).toNat)
  case atStart => exact ⟨0, by omega, rfl, h3, hbC⟩
  case round =>
    obtain ⟨i, hi, rfl, hbk, hbel⟩ := hrel
    clear h3 hbC
    by_cases hlt : i < 3
    · have i0 : (0 : Int) ≤ (i : Int) := by omega
      have i1 : (i : Int) < 3 := by omega
      have hm0 := allM_ge HT.out i (by omega)
      have hnx : allM x0 y0 x1 y1 x2 y2 (i + 1) = rowM x0 y0 x1 y1 x2 y2 i (allM x0 y0 x1 y1 x2 y2 i) 3 := rfl
      obtain ⟨m, hm⟩ : ∃ m, allM x0 y0 x1 y1 x2 y2 i = m := ⟨_, rfl⟩
      rw [hm] at hbk hm0 hnx
      have HM := Lib.hid (And.intro hm0 hnx)
      clear hm hm0 hnx
      have hk0 : Bk3 wr G (enL (rowM x0 y0 x1 y1 x2 y2 i m 0)) (enP (rowM x0 y0 x1 y1 x2 y2 i m 0)) (enH (areaP (x0, y0) (x1, y1) (x2, y2)) (rowM x0 y0 x1 y1 x2 y2 i m 0)) := hbk
      clear hbk
      go_wp2_with fail
      go_loopw [5] (fun jv ws => ∃ j : Nat, j ≤ 3 ∧ jv = .int .i64 j ∧ Bk3 ws G (enL (rowM x0 y0 x1 y1 x2 y2 i m j)) (enP (rowM x0 y0 x1 y1 x2 y2 i m j)) (enH (areaP (x0, y0) (x1, y1) (x2, y2)) (rowM x0 y0 x1 y1 x2 y2 i m j)) ∧ Below wB.heap.size wB ws) (fun jv _ => 3 - (intOf jv).toNat)
      case atStart => exact ⟨0, by omega, rfl, hk0, hbel⟩
      case round =>
        obtain ⟨j, hj, rfl, hbk, hbes⟩ := hrel
        clear hk0 hbel
        by_cases hlt2 : j < 3
        · have j0 : (0 : Int) ≤ (j : Int) := by omega
          have j1 : (j : Int) < 3 := by omega
          have hq0 := rowM_ge HT.out hlt HM.out.1 j (by omega)
          have hst : rowM x0 y0 x1 y1 x2 y2 i m (j + 1) = stp x0 y0 x1 y1 x2 y2 i (rowM x0 y0 x1 y1 x2 y2 i m j) j := rfl
          obtain ⟨q, hq⟩ : ∃ q, rowM x0 y0 x1 y1 x2 y2 i m j = q := ⟨_, rfl⟩
          rw [hq] at hbk hq0 hst
          have HQ := Lib.hid hst
          clear hq hst
          by_cases hij : i = j
          · subst hij
            go_wp2
            go_roundw
            case rel => exact ⟨i + 1, by omega, by go_num, by rw [HQ.out]; unfold stp; rw [if_pos rfl]; exact hbk, hbes⟩
            case measure => simp [intOf]; omega
          · have hijI : ¬ ((i : Int) = (j : Int)) := by omega
            obtain ⟨⟨⟨a0, a1, a2, a3, a4, a5⟩, _, az⟩, _⟩ := HX.out wr hbes
            go_wp2_with fail
            go_at_call 82
            refine (l04Shape_si x0 y0 x1 y1 x2 y2 i j _ hlt hlt2 hij HT.out).mono ?_
            rintro e wx ⟨rfl, bx⟩
            clear a0 a1 a2 a3 a4 a5 az
            have hkx := hbk.below bx
            have hbx : Below wB.heap.size wB wx := below_after bx hbes
            clear hbk hbes bx
            have hk0 := siK_ge HT.out i j hlt hlt2 hij
            have hst : stp x0 y0 x1 y1 x2 y2 i q j = min q (siK x0 y0 x1 y1 x2 y2 i j) := if_neg hij
            have HQ2 := Lib.hid (HQ.out.trans hst)
            clear hst
            obtain ⟨k, hk⟩ : ∃ k, siK x0 y0 x1 y1 x2 y2 i j = k := ⟨_, rfl⟩
            rw [hk] at hk0 HQ2 ⊢
            clear hk
            go_upto_region 10 with fail
            obtain ⟨g, hg⟩ : ∃ g, wx.heap.size = g := ⟨_, rfl⟩
            obtain ⟨wD, hwD⟩ : ∃ wD, wD = wx.alloc (.cells #[.int .i64 (enL k), .int .i64 (enP k), .int .i64 (enH (areaP (x0, y0) (x1, y1) (x2, y2)) k)] 49) := ⟨_, rfl⟩
            rw [← hwD, hg]
            have hkg : Bk3 wD g (enL k) (enP k) (enH (areaP (x0, y0) (x1, y1) (x2, y2)) k) := by rw [hwD, ← hg]; exact bk3_new wx (enL k) (enP k) (enH (areaP (x0, y0) (x1, y1) (x2, y2)) k) _
            have hkG : Bk3 wD G (enL q) (enP q) (enH (areaP (x0, y0) (x1, y1) (x2, y2)) q) := by rw [hwD]; exact hkx.below ((Below.refl _ _).alloc (Nat.le_refl _) _)
            have hbD : Below wB.heap.size wB wD := by rw [hwD]; exact hbx.alloc hbx.size _
            clear hwD hkx hbx hg
            obtain ⟨⟨a0, a1, a2⟩, ⟨a3, a4, a5⟩, a6⟩ := id hkg
            obtain ⟨⟨d0, d1, d2⟩, ⟨d3, d4, d5⟩, d6⟩ := id hkG
            go_wp2_with fail
            go_at_call 105
            refine (l04Before_any (areaP (x0, y0) (x1, y1) (x2, y2)) k q _ hk0 hq0).mono ?_
            rintro e wy ⟨rfl, by1⟩
            clear a0 a1 a2 a3 a4 a5 a6 d0 d1 d2 d3 d4 d5 d6
            have hkg := hkg.below by1
            have hkG := hkG.below by1
            have hby : Below wB.heap.size wB wy := below_after by1 hbD
            clear by1 hbD
            obtain ⟨⟨a0, a1, a2⟩, ⟨a3, a4, a5⟩, a6⟩ := id hkg
            obtain ⟨⟨d0, d1, d2⟩, ⟨d3, d4, d5⟩, d6⟩ := id hkG
            by_cases hkq : k < q
            · have hS := ((hkG.set0 (enL k)).set1 (enP k)).set2 (enH (areaP (x0, y0) (x1, y1) (x2, y2)) k)
              have hbS := ((hby.setCell (p := ⟨G, 0, none⟩) hGB (.int .i64 (enL k))).setCell (p := ⟨G, 1, none⟩) hGB (.int .i64 (enP k))).setCell (p := ⟨G, 2, none⟩) hGB (.int .i64 (enH (areaP (x0, y0) (x1, y1) (x2, y2)) k))
              have HS := Lib.hid (And.intro hS hbS)
              have HMN : Hid (min q k = k) := by show min q k = k; omega
              clear hS hbS
              go_wp2
              go_roundw
              case rel => exact ⟨j + 1, by omega, by go_num, by rw [HQ2.out, HMN.out]; exact HS.out.1, HS.out.2⟩
              case measure => simp [intOf]; omega
            · have HMN : Hid (min q k = q) := by show min q k = q; omega
              go_wp2
              go_roundw
              case rel => exact ⟨j + 1, by omega, by go_num, by rw [HQ2.out, HMN.out]; exact hkG, hby⟩
              case measure => simp [intOf]; omega
        · obtain rfl : j = 3 := by omega
          clear hlt2
          go_wp2
          go_roundw
          case rel => exact ⟨i + 1, by omega, by go_num, by rw [HM.out.2]; exact hbk, hbes⟩
          case measure => simp [intOf]; omega
    · obtain rfl : i = 3 := by omega
      clear hlt
      rw [allM_3] at hbk
      obtain ⟨⟨d0, d1, d2⟩, ⟨d3, d4, d5⟩, d6⟩ := id hbk
      obtain ⟨_, ⟨⟨a0, a1, a2⟩, ⟨a3, a4, a5⟩, a6⟩⟩ := HX.out wr hbel
      have hbF := below_after hbel HBW.out
      go_wp2
      refine bodyPost_ret (v := .agg #[.int .i64 (enL (nK x0 y0 x1 y1 x2 y2)), .int .i64 (enP (nK x0 y0 x1 y1 x2 y2)), .int .i64 (enH (areaP (x0, y0) (x1, y1) (x2, y2)) (nK x0 y0 x1 y1 x2 y2))]) (by simp (maxDischargeDepth := 8) [results, Try.results84, go_sem, *]) rfl ?_
      exact ⟨rfl, by (repeat' (first | (with_reducible exact hbF) | (with_reducible refine Below.setCell ?_ ?_ _) | go_size))⟩
set_option maxHeartbeats 4000000 in
theorem spec_NormalShape_any (x0 y0 x1 y1 x2 y2 : Int) (w : World) : Calls Try.prog 42 #[.agg #[.int .i64 x0, .int .i64 y0, .int .i64 x1, .int .i64 y1, .int .i64 x2, .int .i64 y2]] w fun e w' => e = .returned (.tuple #[.agg #[.int .i64 (on0 (tC x0 y0 x1 y1 x2 y2) (enL (nK x0 y0 x1 y1 x2 y2))), .int .i64 (on0 (tC x0 y0 x1 y1 x2 y2) (enP (nK x0 y0 x1 y1 x2 y2))), .int .i64 (on0 (tC x0 y0 x1 y1 x2 y2) (enH (areaP (x0, y0) (x1, y1) (x2, y2)) (nK x0 y0 x1 y1 x2 y2)))], .int .i64 (tC x0 y0 x1 y1 x2 y2)]) ∧ Below w.heap.size w w' := by
  cases h : isT x0 y0 x1 y1 x2 y2
  · rw [tC_no h, on0_1, on0_1, on0_1]
    have hs20 : w.heap.size < w.heap.size + 1 + 1 := (by omega); have hs30 : w.heap.size < w.heap.size + 1 + 1 + 1 := (by omega); have hs31 : w.heap.size + 1 < w.heap.size + 1 + 1 + 1 := (by omega); have hs40 : w.heap.size < w.heap.size + 1 + 1 + 1 + 1 := (by omega); have hs41 : w.heap.size + 1 < w.heap.size + 1 + 1 + 1 + 1 := (by omega); have hs42 : w.heap.size + 1 + 1 < w.heap.size + 1 + 1 + 1 + 1 := (by omega)
    go_enter Try.func42, Try.ntmps42
    go_wp2_with (first | (go_at_call 62; refine (l04Is_any _ _ _ _ _ _ _).mono ?_; rintro e wn ⟨rfl, hb⟩; first | (have h2 := after_call2 hb hcl hfr hlt (by ((repeat' (first | (with_reducible exact Below.refl _ _) | (with_reducible refine Below.alloc ?_ ?_ _) | (with_reducible refine Below.setCell ?_ ?_ _) | (with_reducible refine Below.drew ?_) | (with_reducible refine below_drewN ?_ _) | (with_reducible assumption) | (with_reducible refine below_after (by with_reducible assumption) ?_) | go_size)); done)); obtain ⟨hclx, hfrx, hltx, hsz⟩ := after_call hb; (try simp only [World.size_alloc, World.size_setCell, World.size_drew] at hclx hfrx hltx hsz); (try (have hszl := Nat.lt_of_succ_le hsz)); obtain ⟨hcl, hfr, hlt⟩ := h2) | (obtain ⟨hcl, hfr, hlt, hsz⟩ := after_call hb; (try simp only [World.size_alloc, World.size_setCell, World.size_drew] at hcl hfr hlt hsz))))
    refine bodyPost_ret (v := .tuple #[.agg #[.int .i64 0, .int .i64 0, .int .i64 0], .int .i64 1]) (by simp (maxDischargeDepth := 8) [results, Try.results42, go_sem, *]) rfl ?_
    exact ⟨rfl, by (repeat' (first | (with_reducible exact Below.refl _ _) | (with_reducible refine Below.alloc ?_ ?_ _) | (with_reducible refine Below.setCell ?_ ?_ _) | (with_reducible refine Below.drew ?_) | (with_reducible refine below_drewN ?_ _) | (with_reducible assumption) | (with_reducible refine below_after (by with_reducible assumption) ?_) | go_size))⟩
  · rw [tC_yes h, on0_0, on0_0, on0_0]
    have HT := Lib.hid h
    have hs20 : w.heap.size < w.heap.size + 1 + 1 := (by omega); have hs30 : w.heap.size < w.heap.size + 1 + 1 + 1 := (by omega); have hs31 : w.heap.size + 1 < w.heap.size + 1 + 1 + 1 := (by omega); have hs40 : w.heap.size < w.heap.size + 1 + 1 + 1 + 1 := (by omega); have hs41 : w.heap.size + 1 < w.heap.size + 1 + 1 + 1 + 1 := (by omega); have hs42 : w.heap.size + 1 + 1 < w.heap.size + 1 + 1 + 1 + 1 := (by omega)
    go_enter Try.func42, Try.ntmps42
    go_wp2_with (first | (go_at_call 62; refine (l04Is_any _ _ _ _ _ _ _).mono ?_; rintro e wn ⟨rfl, hb⟩; first | (have h2 := after_call2 hb hcl hfr hlt (by ((repeat' (first | (with_reducible exact Below.refl _ _) | (with_reducible refine Below.alloc ?_ ?_ _) | (with_reducible refine Below.setCell ?_ ?_ _) | (with_reducible refine Below.drew ?_) | (with_reducible refine below_drewN ?_ _) | (with_reducible assumption) | (with_reducible refine below_after (by with_reducible assumption) ?_) | go_size)); done)); obtain ⟨hclx, hfrx, hltx, hsz⟩ := after_call hb; (try simp only [World.size_alloc, World.size_setCell, World.size_drew] at hclx hfrx hltx hsz); (try (have hszl := Nat.lt_of_succ_le hsz)); obtain ⟨hcl, hfr, hlt⟩ := h2) | (obtain ⟨hcl, hfr, hlt, hsz⟩ := after_call hb; (try simp only [World.size_alloc, World.size_setCell, World.size_drew] at hcl hfr hlt hsz))) | (go_at_call 84; refine (l04Normal_tri _ _ _ _ _ _ _ HT.out).mono ?_; rintro e wn ⟨rfl, hb⟩; first | (have h2 := after_call2 hb hcl hfr hlt (by ((repeat' (first | (with_reducible exact Below.refl _ _) | (with_reducible refine Below.alloc ?_ ?_ _) | (with_reducible refine Below.setCell ?_ ?_ _) | (with_reducible refine Below.drew ?_) | (with_reducible refine below_drewN ?_ _) | (with_reducible assumption) | (with_reducible refine below_after (by with_reducible assumption) ?_) | go_size)); done)); obtain ⟨hclx, hfrx, hltx, hsz⟩ := after_call hb; (try simp only [World.size_alloc, World.size_setCell, World.size_drew] at hclx hfrx hltx hsz); (try (have hszl := Nat.lt_of_succ_le hsz)); obtain ⟨hcl, hfr, hlt⟩ := h2) | (obtain ⟨hcl, hfr, hlt, hsz⟩ := after_call hb; (try simp only [World.size_alloc, World.size_setCell, World.size_drew] at hcl hfr hlt hsz))))
    refine bodyPost_ret (v := .tuple #[.agg #[.int .i64 (enL (nK x0 y0 x1 y1 x2 y2)), .int .i64 (enP (nK x0 y0 x1 y1 x2 y2)), .int .i64 (enH (areaP (x0, y0) (x1, y1) (x2, y2)) (nK x0 y0 x1 y1 x2 y2))], .int .i64 0]) (by simp (maxDischargeDepth := 8) [results, Try.results42, go_sem, *]) rfl ?_
    exact ⟨rfl, by (repeat' (first | (with_reducible exact Below.refl _ _) | (with_reducible refine Below.alloc ?_ ?_ _) | (with_reducible refine Below.setCell ?_ ?_ _) | (with_reducible refine Below.drew ?_) | (with_reducible refine below_drewN ?_ _) | (with_reducible assumption) | (with_reducible refine below_after (by with_reducible assumption) ?_) | go_size))⟩
theorem wp_append_atS (B : Nat) {W : World} {o : Oper} {a : Act} {K : Act → World → Prop} {Q : Exit → Act → World → Prop} (s x : Operand)
    (ho : o.op = .call { callee := .builtin .append, args := #[s, x], argTypes := #[64, 64] })
    {v : Value} {n m : Nat} {xs ys : List Int} {g c : Nat} (hown : OwnS B W v n xs) (hsrc : ∀ j, j < ys.length → W.cell? ⟨g, j, none⟩ = some (.int .i64 (ys.getD j 0))) (hm : ys.length = m * 3) (hb : B ≤ W.heap.size) (hs : a.eval s = v) (hx : a.eval x = .slice (some ⟨g, 0, none⟩) m c) (hlen : n + m ≤ 4194304)
    (hK : ∀ v' w', OwnS B w' v' (n + m) (xs ++ ys) → W.grownBy w' v.ownBlock → (v'.ownBlock = v.ownBlock ∨ v'.ownBlock = some W.heap.size) → K (a.put o.dst v') w') : Oper.wp Try.prog o a W K Q := by
  obtain ⟨ti0, hi, hz0, hz1, hz2⟩ := info_parts info_sh
  obtain ⟨v', w', hr, h2, h3, h4, h5⟩ := run_append_own_at (P := Try.prog) W B 64 o.type 49 ti0 (.agg #[.int .i64 0, .int .i64 0, .int .i64 0]) 3 24 Try.underlying64 hi hz0 hz1 hz2 rfl (by decide) v _ _ hown ⟨g, 0, none⟩ m c (ys.map (Value.int .i64)) (by rw [List.length_map]; omega)
    (by intro j u hj
        rw [List.getElem?_map] at hj
        cases hy : ys[j]? with
        | none => rw [hy] at hj; cases hj
        | some y =>
          rw [hy] at hj
          cases hj
          have hjm := (List.getElem?_eq_some_iff.1 hy).1
          have e : (Addr.add ⟨g, 0, none⟩ j) = ⟨g, j, none⟩ := by unfold Addr.add; split <;> simp_all
          rw [e, hsrc j hjm]
          simp [List.getD, hy])
    (by intro u hu; simp only [List.mem_map] at hu; obtain ⟨y, _, rfl⟩ := hu; rfl) (by unfold maxLen; omega) (by omega) hb
  unfold Oper.wp execOp
  simp only [ho, resolve, invoke, builtin, Sem.run_bind, Sem.run_pure, Result.andThen_ok, List.map_toArray, List.map_cons, List.map_nil, hs, hx, hr]
  refine hK _ _ ?_ h3 h5
  show w'.ownsRow B 49 3 v' (n + m) ((xs ++ ys).map (Value.int .i64))
  rw [List.map_append]; exact h2
set_option maxHeartbeats 16000000 in
theorem impl_NormalShape_any (x0 y0 x1 y1 x2 y2 : Int) (w : World) : Calls Try.prog 43 #[.agg #[.int .i64 x0, .int .i64 y0, .int .i64 x1, .int .i64 y1, .int .i64 x2, .int .i64 y2]] w fun e w' => e = .returned (.tuple #[.agg #[.int .i64 (on0 (tC x0 y0 x1 y1 x2 y2) (enL (nK x0 y0 x1 y1 x2 y2))), .int .i64 (on0 (tC x0 y0 x1 y1 x2 y2) (enP (nK x0 y0 x1 y1 x2 y2))), .int .i64 (on0 (tC x0 y0 x1 y1 x2 y2) (enH (areaP (x0, y0) (x1, y1) (x2, y2)) (nK x0 y0 x1 y1 x2 y2)))], .int .i64 (tC x0 y0 x1 y1 x2 y2)]) ∧ Below w.heap.size w w' := by
  cases h : isT x0 y0 x1 y1 x2 y2
  · rw [tC_no h, on0_1, on0_1, on0_1]
    have hs20 : w.heap.size < w.heap.size + 1 + 1 := (by omega); have hs30 : w.heap.size < w.heap.size + 1 + 1 + 1 := (by omega); have hs31 : w.heap.size + 1 < w.heap.size + 1 + 1 + 1 := (by omega); have hs40 : w.heap.size < w.heap.size + 1 + 1 + 1 + 1 := (by omega); have hs41 : w.heap.size + 1 < w.heap.size + 1 + 1 + 1 + 1 := (by omega); have hs42 : w.heap.size + 1 + 1 < w.heap.size + 1 + 1 + 1 + 1 := (by omega)
    go_enter Try.func43, Try.ntmps43
    go_wp2_with (first | (go_at_call 19; refine (impl_IsTriangle_any _ _ _ _ _ _ _).mono ?_; rintro e wn ⟨rfl, hb⟩; first | (have h2 := after_call2 hb hcl hfr hlt (by ((repeat' (first | (with_reducible exact Below.refl _ _) | (with_reducible refine Below.alloc ?_ ?_ _) | (with_reducible refine Below.setCell ?_ ?_ _) | (with_reducible refine Below.drew ?_) | (with_reducible refine below_drewN ?_ _) | (with_reducible assumption) | (with_reducible refine below_after (by with_reducible assumption) ?_) | go_size)); done)); obtain ⟨hclx, hfrx, hltx, hsz⟩ := after_call hb; (try simp only [World.size_alloc, World.size_setCell, World.size_drew] at hclx hfrx hltx hsz); (try (have hszl := Nat.lt_of_succ_le hsz)); obtain ⟨hcl, hfr, hlt⟩ := h2) | (obtain ⟨hcl, hfr, hlt, hsz⟩ := after_call hb; (try simp only [World.size_alloc, World.size_setCell, World.size_drew] at hcl hfr hlt hsz))))
    refine bodyPost_ret (v := .tuple #[.agg #[.int .i64 0, .int .i64 0, .int .i64 0], .int .i64 1]) (by simp (maxDischargeDepth := 8) [results, Try.results43, go_sem, *]) rfl ?_
    exact ⟨rfl, by (repeat' (first | (with_reducible exact Below.refl _ _) | (with_reducible refine Below.alloc ?_ ?_ _) | (with_reducible refine Below.setCell ?_ ?_ _) | (with_reducible refine Below.drew ?_) | (with_reducible refine below_drewN ?_ _) | (with_reducible assumption) | (with_reducible refine below_after (by with_reducible assumption) ?_) | go_size))⟩
  · rw [tC_yes h, on0_0, on0_0, on0_0]
    have HT := Lib.hid h
    clear h
    go_enter Try.func43, Try.ntmps43
    go_upto_region 1 with fail
    obtain ⟨wB, hwB⟩ : ∃ wB, wB = (w.alloc (.cells #[.int .i64 x0, .int .i64 y0, .int .i64 x1, .int .i64 y1, .int .i64 x2, .int .i64 y2] 27)).alloc (.cells #[.int .i64 0, .int .i64 0, .int .i64 0] 49) := ⟨_, rfl⟩
    rw [← hwB]
    have h6 : Bk6 wB w.heap.size x0 y0 x1 y1 x2 y2 := by rw [hwB]; exact (bk6_new w x0 y0 x1 y1 x2 y2 _).below ((Below.refl _ _).alloc (Nat.le_refl _) _)
    have h3 : Bk3 wB (w.heap.size + 1) 0 0 0 := by
      rw [hwB]
      have h := bk3_new (w.alloc (.cells #[.int .i64 x0, .int .i64 y0, .int .i64 x1, .int .i64 y1, .int .i64 x2, .int .i64 y2] 27)) 0 0 0 49
      rw [World.size_alloc] at h
      exact h
    have HBW : Hid (Below w.heap.size w wB) := by
      show Below w.heap.size w wB
      rw [hwB]; (repeat' (first | (with_reducible exact Below.refl _ _) | (with_reducible refine Below.alloc ?_ ?_ _) | (with_reducible refine Below.setCell ?_ ?_ _) | (with_reducible refine Below.drew ?_) | (with_reducible refine below_drewN ?_ _) | (with_reducible assumption) | (with_reducible refine below_after (by with_reducible assumption) ?_) | go_size))
    have HX : Hid (∀ W, Below wB.heap.size wB W → Bk6 W w.heap.size x0 y0 x1 y1 x2 y2 ∧ Bk3 W (w.heap.size + 1) 0 0 0) := fun W hW => ⟨h6.below hW, h3.below hW⟩
    have hbs : w.heap.size + 1 < wB.heap.size := h3.2.2
    clear hwB h6 h3
    obtain ⟨⟨⟨i0, i1, i2, i3, i4, i5⟩, _, iz⟩, _⟩ := HX.out wB (Below.refl _ _)
    go_wp2_with fail
    go_at_call 19
    refine (impl_IsTriangle_any _ _ _ _ _ _ _).mono ?_
    rw [HT.out]
    rintro e w1 ⟨rfl, b1⟩
    clear i0 i1 i2 i3 i4 i5 iz
    go_wp2_with fail
    go_loopw [4, 11] (fun v i wr => ∃ (j : Nat) (va : Option Addr) (vc : Nat), j ≤ 3 ∧ v = .slice va (2 * j : Nat) vc ∧ i = .int .i64 j ∧ OwnS wB.heap.size wr (.slice va (2 * j) vc) (2 * j) (flatS (areaP (x0, y0) (x1, y1) (x2, y2)) ((nkL x0 y0 x1 y1 x2 y2).take (2 * j))) ∧ Below wB.heap.size wB wr) (fun _ i _ => 3 - (intOf i).toNat)
    case atStart => exact ⟨0, none, 0, by omega, rfl, rfl, World.ownsRow_nil _ _ _ _, b1⟩
    case round =>
      obtain ⟨j, va, vc, hj, rfl, rfl, hown, hbel⟩ := hrel
      clear b1
      have HO := Lib.hid hown
      clear hown
      have hc : j = 0 ∨ j = 1 ∨ j = 2 ∨ j = 3 := by omega
      rcases hc with rfl | rfl | rfl | rfl
      · skip
        have HO1 : Hid (OwnS wB.heap.size wr (.slice va 0 vc) 0 (flatS (areaP (x0, y0) (x1, y1) (x2, y2)) ((nkL x0 y0 x1 y1 x2 y2).take 0))) := HO
        obtain ⟨⟨⟨a0, a1, a2, a3, a4, a5⟩, _, az⟩, _⟩ := HX.out wr hbel
        go_wp2_with fail
        go_at_call 78
        refine (pointsFrom_0 _ _ _ _ _ _ _).mono ?_
        rintro e wx ⟨rfl, bx⟩
        have hbx : Below wB.heap.size wB wx := below_after bx hbel
        have HO2 := Lib.hid (HO1.out.below bx)
        have HLT : Hid (∀ k, (Value.slice va 0 vc).ownBlock = some k → k < wx.heap.size) := fun k hk => (World.ownsRow.lt HO2.out k hk).2
        clear bx hbel a0 a1 a2 a3 a4 a5 az
        go_upto_region 8 with fail
        obtain ⟨g, hg⟩ : ∃ g, wx.heap.size = g := ⟨_, rfl⟩
        obtain ⟨wD, hwD⟩ : ∃ wD, wD = wx.alloc (.cells #[.int .i64 x0, .int .i64 y0, .int .i64 x1, .int .i64 y1, .int .i64 x2, .int .i64 y2] 27) := ⟨_, rfl⟩
        rw [← hwD, hg]
        have hkD : Bk6 wD g x0 y0 x1 y1 x2 y2 := by rw [hwD, ← hg]; exact bk6_new wx x0 y0 x1 y1 x2 y2 _
        have HO := Lib.hid (HO2.out.below ((Below.refl _ _).alloc (Nat.le_refl _) (.cells #[.int .i64 x0, .int .i64 y0, .int .i64 x1, .int .i64 y1, .int .i64 x2, .int .i64 y2] 27)))
        rw [← hwD] at HO
        have hbD : Below wB.heap.size wB wD := by rw [hwD]; exact hbx.alloc hbx.size _
        have HNE : Hid (¬ (Value.slice va 0 vc).ownBlock = some g) := by
          intro hk
          have := HLT.out g hk
          omega
        clear hwD hbx hg HLT
        refine wp_region_held_drew (S := (fun W => Below wB.heap.size wB W ∧ Bk6 W g x0 y0 x1 y1 x2 y2)) (by kernel_rfl) ⟨hbD.drew, hkD.below (Below.drew (Below.refl _ _))⟩ (fun hHeld => ?_)
        have HO := Lib.hid (HO.out.below (Below.drew (Below.refl _ _)))
        have hHeld : (fun W => Below wB.heap.size wB W ∧ Bk6 W g x0 y0 x1 y1 x2 y2) _ := hHeld
        obtain ⟨wE, hwE⟩ : ∃ wE, wD.drew = wE := ⟨_, rfl⟩
        rw [hwE] at hHeld HO ⊢
        clear hwE hkD hbD
        (refine wpAnyH_take (i := 0) (v := ?_) rfl (by kernel_rfl) (by kernel_rfl) (by kernel_rfl) (fun _ _ _ h => h) (Or.inl ⟨rfl, ?_⟩) (by assumption) ?_; rotate_left; focus (intro W hSw; (try dsimp only at hSw); obtain ⟨_, ⟨a0, a1, a2, a3, a4, a5⟩, _, az⟩ := hSw; go_simp; try (with_reducible rfl))); (try simp only [Act.put, List.getElem_toArray, List.getElem_cons_succ, List.getElem_cons_zero, List.setIfInBounds_toArray, List.set_cons_zero, List.set_cons_succ])
        (refine wpAnyH_take (i := 1) (v := ?_) rfl (by kernel_rfl) (by kernel_rfl) (by kernel_rfl) (fun _ _ _ h => h) (Or.inl ⟨rfl, ?_⟩) (by assumption) ?_; rotate_left; focus (intro W hSw; (try dsimp only at hSw); obtain ⟨_, ⟨a0, a1, a2, a3, a4, a5⟩, _, az⟩ := hSw; go_simp; try (with_reducible rfl))); (try simp only [Act.put, List.getElem_toArray, List.getElem_cons_succ, List.getElem_cons_zero, List.setIfInBounds_toArray, List.set_cons_zero, List.set_cons_succ])
        (refine wpAnyH_take (i := 3) (v := ?_) rfl (by kernel_rfl) (by kernel_rfl) (by kernel_rfl) (fun _ _ _ h => h) (Or.inl ⟨rfl, ?_⟩) (by assumption) ?_; rotate_left; focus (intro W hSw; (try dsimp only at hSw); obtain ⟨_, ⟨a0, a1, a2, a3, a4, a5⟩, _, az⟩ := hSw; go_simp; try (with_reducible rfl))); (try simp only [Act.put, List.getElem_toArray, List.getElem_cons_succ, List.getElem_cons_zero, List.setIfInBounds_toArray, List.set_cons_zero, List.set_cons_succ])
        (refine wpAnyH_take (i := 4) (v := ?_) rfl (by kernel_rfl) (by kernel_rfl) (by kernel_rfl) (fun _ _ _ h => h) (Or.inl ⟨rfl, ?_⟩) (by assumption) ?_; rotate_left; focus (intro W hSw; (try dsimp only at hSw); obtain ⟨_, ⟨a0, a1, a2, a3, a4, a5⟩, _, az⟩ := hSw; go_simp; try (with_reducible rfl))); (try simp only [Act.put, List.getElem_toArray, List.getElem_cons_succ, List.getElem_cons_zero, List.setIfInBounds_toArray, List.set_cons_zero, List.set_cons_succ])
        (refine wpAnyH_take (i := 5) (v := ?_) rfl (by kernel_rfl) (by kernel_rfl) (by kernel_rfl) (fun _ _ _ h => h) (Or.inl ⟨rfl, ?_⟩) (by assumption) ?_; rotate_left; focus (intro W hSw; (try dsimp only at hSw); obtain ⟨_, ⟨a0, a1, a2, a3, a4, a5⟩, _, az⟩ := hSw; go_simp; try (with_reducible rfl))); (try simp only [Act.put, List.getElem_toArray, List.getElem_cons_succ, List.getElem_cons_zero, List.setIfInBounds_toArray, List.set_cons_zero, List.set_cons_succ])
        (refine wpAnyH_take (i := 6) (v := ?_) rfl (by kernel_rfl) (by kernel_rfl) (by kernel_rfl) (fun _ _ _ h => h) (Or.inl ⟨rfl, ?_⟩) (by assumption) ?_; rotate_left; focus (intro W hSw; (try dsimp only at hSw); obtain ⟨_, ⟨a0, a1, a2, a3, a4, a5⟩, _, az⟩ := hSw; go_simp; try (with_reducible rfl))); (try simp only [Act.put, List.getElem_toArray, List.getElem_cons_succ, List.getElem_cons_zero, List.setIfInBounds_toArray, List.set_cons_zero, List.set_cons_succ])
        (refine wpAnyH_take (i := 7) (v := ?_) rfl (by kernel_rfl) (by kernel_rfl) (by kernel_rfl) (fun _ _ _ h => h) (Or.inl ⟨rfl, ?_⟩) (by assumption) ?_; rotate_left; focus (intro W hSw; (try dsimp only at hSw); obtain ⟨_, ⟨a0, a1, a2, a3, a4, a5⟩, _, az⟩ := hSw; go_simp; try (with_reducible rfl))); (try simp only [Act.put, List.getElem_toArray, List.getElem_cons_succ, List.getElem_cons_zero, List.setIfInBounds_toArray, List.set_cons_zero, List.set_cons_succ])
        (refine wpAnyH_take (i := 8) (v := ?_) rfl (by kernel_rfl) (by kernel_rfl) (by kernel_rfl) (fun _ _ _ h => h) (Or.inl ⟨rfl, ?_⟩) (by assumption) ?_; rotate_left; focus (intro W hSw; (try dsimp only at hSw); obtain ⟨_, ⟨a0, a1, a2, a3, a4, a5⟩, _, az⟩ := hSw; go_simp; try (with_reducible rfl))); (try simp only [Act.put, List.getElem_toArray, List.getElem_cons_succ, List.getElem_cons_zero, List.setIfInBounds_toArray, List.set_cons_zero, List.set_cons_succ])
        (refine wpAnyH_take (i := 9) (v := ?_) rfl (by kernel_rfl) (by kernel_rfl) (by kernel_rfl) (fun _ _ _ h => h) (Or.inl ⟨rfl, ?_⟩) (by assumption) ?_; rotate_left; focus (intro W hSw; (try dsimp only at hSw); obtain ⟨_, ⟨a0, a1, a2, a3, a4, a5⟩, _, az⟩ := hSw; go_simp; try (with_reducible rfl))); (try simp only [Act.put, List.getElem_toArray, List.getElem_cons_succ, List.getElem_cons_zero, List.setIfInBounds_toArray, List.set_cons_zero, List.set_cons_succ])
        refine wpAnyH_ready (rs := [2]) (by kernel_rfl) (by simp) ?_; refine AllReadyH.cons rfl (fun K hK => ?_) AllReadyH.nil
        go_simp; (go_at_call 83; refine (inOrder_01 _ _ _ _ _ _ _ HT.out).mono ?_; rintro en wy ⟨rfl, hb2⟩); have HO := Lib.hid (HO.out.below hb2); refine hK.out _ _ ⟨below_after hb2 hHeld.1, hHeld.2.below hb2⟩ (fun hHeld2 => ?_); clear hb2; (clear hHeld; rename _ => hHeld; clear hK K; have hHeld : (fun W => Below wB.heap.size wB W ∧ Bk6 W g x0 y0 x1 y1 x2 y2) _ := hHeld); (try simp only [Act.put, List.getElem_toArray, List.getElem_cons_succ, List.getElem_cons_zero, List.setIfInBounds_toArray, List.set_cons_zero, List.set_cons_succ])
        refine wpAnyH_ready (rs := [10]) (by kernel_rfl) (by simp) ?_; refine AllReadyH.cons rfl (fun K hK => ?_) AllReadyH.nil
        go_simp; (go_at_call 83; refine (inOrder_02 _ _ _ _ _ _ _ HT.out).mono ?_; rintro en wz ⟨rfl, hb2⟩); have HO := Lib.hid (HO.out.below hb2); refine hK.out _ _ ⟨below_after hb2 hHeld.1, hHeld.2.below hb2⟩ (fun hHeld2 => ?_); clear hb2; (clear hHeld; rename _ => hHeld; clear hK K; have hHeld : (fun W => Below wB.heap.size wB W ∧ Bk6 W g x0 y0 x1 y1 x2 y2) _ := hHeld); (try simp only [Act.put, List.getElem_toArray, List.getElem_cons_succ, List.getElem_cons_zero, List.setIfInBounds_toArray, List.set_cons_zero, List.set_cons_succ])
        refine wpAnyH_ready (rs := [11]) (by kernel_rfl) (by simp) ?_; refine AllReadyH.cons rfl (fun K hK => ?_) AllReadyH.nil
        go_simp; obtain ⟨q, hq⟩ : ∃ q, wz.heap.size = q := ⟨_, rfl⟩
        have HC6 : Hid (Bk6 (wz.alloc (.cells #[.int .i64 (enL (keyT x0 y0 x1 y1 x2 y2)), .int .i64 (enP (keyT x0 y0 x1 y1 x2 y2)), .int .i64 (enH (areaP (x0, y0) (x1, y1) (x2, y2)) (keyT x0 y0 x1 y1 x2 y2)), .int .i64 (enL (keyT x0 y0 x2 y2 x1 y1)), .int .i64 (enP (keyT x0 y0 x2 y2 x1 y1)), .int .i64 (enH (areaP (x0, y0) (x1, y1) (x2, y2)) (keyT x0 y0 x2 y2 x1 y1))] 49)) q (enL (keyT x0 y0 x1 y1 x2 y2)) (enP (keyT x0 y0 x1 y1 x2 y2)) (enH (areaP (x0, y0) (x1, y1) (x2, y2)) (keyT x0 y0 x1 y1 x2 y2)) (enL (keyT x0 y0 x2 y2 x1 y1)) (enP (keyT x0 y0 x2 y2 x1 y1)) (enH (areaP (x0, y0) (x1, y1) (x2, y2)) (keyT x0 y0 x2 y2 x1 y1))) := by rw [← hq]; exact bk6_new wz (enL (keyT x0 y0 x1 y1 x2 y2)) (enP (keyT x0 y0 x1 y1 x2 y2)) (enH (areaP (x0, y0) (x1, y1) (x2, y2)) (keyT x0 y0 x1 y1 x2 y2)) (enL (keyT x0 y0 x2 y2 x1 y1)) (enP (keyT x0 y0 x2 y2 x1 y1)) (enH (areaP (x0, y0) (x1, y1) (x2, y2)) (keyT x0 y0 x2 y2 x1 y1)) _
        have HO := Lib.hid (HO.out.below ((Below.refl _ _).alloc (Nat.le_refl _) (.cells #[.int .i64 (enL (keyT x0 y0 x1 y1 x2 y2)), .int .i64 (enP (keyT x0 y0 x1 y1 x2 y2)), .int .i64 (enH (areaP (x0, y0) (x1, y1) (x2, y2)) (keyT x0 y0 x1 y1 x2 y2)), .int .i64 (enL (keyT x0 y0 x2 y2 x1 y1)), .int .i64 (enP (keyT x0 y0 x2 y2 x1 y1)), .int .i64 (enH (areaP (x0, y0) (x1, y1) (x2, y2)) (keyT x0 y0 x2 y2 x1 y1))] 49)))
        refine hK.out _ _ ⟨hHeld.1.alloc hHeld.1.size _, hHeld.2.below ((Below.refl _ _).alloc (Nat.le_refl _) _)⟩ (fun hHeld2 => ?_); (clear hHeld; rename _ => hHeld; clear hK K; have hHeld : (fun W => Below wB.heap.size wB W ∧ Bk6 W g x0 y0 x1 y1 x2 y2) _ := hHeld); (try simp only [Act.put, List.getElem_toArray, List.getElem_cons_succ, List.getElem_cons_zero, List.setIfInBounds_toArray, List.set_cons_zero, List.set_cons_succ])
        rw [hq]; clear hq; obtain ⟨wq, hwq⟩ : ∃ wx, wz.alloc (.cells #[.int .i64 (enL (keyT x0 y0 x1 y1 x2 y2)), .int .i64 (enP (keyT x0 y0 x1 y1 x2 y2)), .int .i64 (enH (areaP (x0, y0) (x1, y1) (x2, y2)) (keyT x0 y0 x1 y1 x2 y2)), .int .i64 (enL (keyT x0 y0 x2 y2 x1 y1)), .int .i64 (enP (keyT x0 y0 x2 y2 x1 y1)), .int .i64 (enH (areaP (x0, y0) (x1, y1) (x2, y2)) (keyT x0 y0 x2 y2 x1 y1))] 49) = wx := ⟨_, rfl⟩; rw [hwq] at HC6 HO hHeld ⊢; clear hwq
        refine wpAnyH_ready (rs := [12]) (by kernel_rfl) (by simp) ?_; refine AllReadyH.cons rfl (fun K hK => ?_) AllReadyH.nil
        refine wp_append_atS (m := 2) (ys := [enL (keyT x0 y0 x1 y1 x2 y2), enP (keyT x0 y0 x1 y1 x2 y2), enH (areaP (x0, y0) (x1, y1) (x2, y2)) (keyT x0 y0 x1 y1 x2 y2), enL (keyT x0 y0 x2 y2 x1 y1), enP (keyT x0 y0 x2 y2 x1 y1), enH (areaP (x0, y0) (x1, y1) (x2, y2)) (keyT x0 y0 x2 y2 x1 y1)]) wB.heap.size _ _ rfl HO.out ?_ rfl hHeld.1.size rfl rfl (by omega) ?_
        · intro j hj
          obtain ⟨⟨c0, c1, c2, c3, c4, c5⟩, _, _⟩ := HC6.out
          have hj : j < 6 := hj
          have hc : j = 0 ∨ j = 1 ∨ j = 2 ∨ j = 3 ∨ j = 4 ∨ j = 5 := by omega
          rcases hc with rfl | rfl | rfl | rfl | rfl | rfl
          · exact c0
          · exact c1
          · exact c2
          · exact c3
          · exact c4
          · exact c5
        intro v' w' ho hgr _
        have hbz : Below wB.heap.size wB w' := hHeld.1.grown hgr hHeld.1.size (fun k hk => (HO.out.lt k hk).1)
        have hkz : Bk6 w' g x0 y0 x1 y1 x2 y2 := hHeld.2.same (hgr.block g hHeld.2.2.2 (by have := HNE.out; exact fun e => this e.symm))
        have ho2 : OwnS wB.heap.size w' v' 2 (flatS (areaP (x0, y0) (x1, y1) (x2, y2)) ((nkL x0 y0 x1 y1 x2 y2).take 2)) := ho
        obtain ⟨va', vc', rfl, _⟩ := own_viewS ho2
        have HOZ := Lib.hid ho2
        clear ho ho2 hgr
        refine hK.out _ _ ⟨hbz, hkz⟩ (fun hHeld2 => ?_); (clear hHeld; rename _ => hHeld; clear hK K; have hHeld : (fun W => Below wB.heap.size wB W ∧ Bk6 W g x0 y0 x1 y1 x2 y2) _ := hHeld); (try simp only [Act.put, List.getElem_toArray, List.getElem_cons_succ, List.getElem_cons_zero, List.setIfInBounds_toArray, List.set_cons_zero, List.set_cons_succ])
        (refine wpAnyH_take (i := 13) (v := ?_) rfl (by kernel_rfl) (by kernel_rfl) (by kernel_rfl) (fun _ _ _ h => h) (Or.inl ⟨rfl, ?_⟩) (by assumption) ?_; rotate_left; focus (intro W hSw; (try dsimp only at hSw); skip; go_simp; try (with_reducible rfl))); (try simp only [Act.put, List.getElem_toArray, List.getElem_cons_succ, List.getElem_cons_zero, List.setIfInBounds_toArray, List.set_cons_zero, List.set_cons_succ])
        refine wpAnyH_done (by kernel_rfl) ?_ _
        go_wp2
        go_roundw
        case rel => exact ⟨0 + 1, va', vc', by omega, rfl, by go_num, HOZ.out, hbz⟩
        case measure => simp [intOf]
      · skip
        have HO1 : Hid (OwnS wB.heap.size wr (.slice va 2 vc) 2 (flatS (areaP (x0, y0) (x1, y1) (x2, y2)) ((nkL x0 y0 x1 y1 x2 y2).take 2))) := HO
        obtain ⟨⟨⟨a0, a1, a2, a3, a4, a5⟩, _, az⟩, _⟩ := HX.out wr hbel
        go_wp2_with fail
        go_at_call 78
        refine (pointsFrom_1 _ _ _ _ _ _ _).mono ?_
        rintro e wx ⟨rfl, bx⟩
        have hbx : Below wB.heap.size wB wx := below_after bx hbel
        have HO2 := Lib.hid (HO1.out.below bx)
        have HLT : Hid (∀ k, (Value.slice va 2 vc).ownBlock = some k → k < wx.heap.size) := fun k hk => (World.ownsRow.lt HO2.out k hk).2
        clear bx hbel a0 a1 a2 a3 a4 a5 az
        go_upto_region 8 with fail
        obtain ⟨g, hg⟩ : ∃ g, wx.heap.size = g := ⟨_, rfl⟩
        obtain ⟨wD, hwD⟩ : ∃ wD, wD = wx.alloc (.cells #[.int .i64 x1, .int .i64 y1, .int .i64 x2, .int .i64 y2, .int .i64 x0, .int .i64 y0] 27) := ⟨_, rfl⟩
        rw [← hwD, hg]
        have hkD : Bk6 wD g x1 y1 x2 y2 x0 y0 := by rw [hwD, ← hg]; exact bk6_new wx x1 y1 x2 y2 x0 y0 _
        have HO := Lib.hid (HO2.out.below ((Below.refl _ _).alloc (Nat.le_refl _) (.cells #[.int .i64 x1, .int .i64 y1, .int .i64 x2, .int .i64 y2, .int .i64 x0, .int .i64 y0] 27)))
        rw [← hwD] at HO
        have hbD : Below wB.heap.size wB wD := by rw [hwD]; exact hbx.alloc hbx.size _
        have HNE : Hid (¬ (Value.slice va 2 vc).ownBlock = some g) := by
          intro hk
          have := HLT.out g hk
          omega
        clear hwD hbx hg HLT
        refine wp_region_held_drew (S := (fun W => Below wB.heap.size wB W ∧ Bk6 W g x1 y1 x2 y2 x0 y0)) (by kernel_rfl) ⟨hbD.drew, hkD.below (Below.drew (Below.refl _ _))⟩ (fun hHeld => ?_)
        have HO := Lib.hid (HO.out.below (Below.drew (Below.refl _ _)))
        have hHeld : (fun W => Below wB.heap.size wB W ∧ Bk6 W g x1 y1 x2 y2 x0 y0) _ := hHeld
        obtain ⟨wE, hwE⟩ : ∃ wE, wD.drew = wE := ⟨_, rfl⟩
        rw [hwE] at hHeld HO ⊢
        clear hwE hkD hbD
        (refine wpAnyH_take (i := 0) (v := ?_) rfl (by kernel_rfl) (by kernel_rfl) (by kernel_rfl) (fun _ _ _ h => h) (Or.inl ⟨rfl, ?_⟩) (by assumption) ?_; rotate_left; focus (intro W hSw; (try dsimp only at hSw); obtain ⟨_, ⟨a0, a1, a2, a3, a4, a5⟩, _, az⟩ := hSw; go_simp; try (with_reducible rfl))); (try simp only [Act.put, List.getElem_toArray, List.getElem_cons_succ, List.getElem_cons_zero, List.setIfInBounds_toArray, List.set_cons_zero, List.set_cons_succ])
        (refine wpAnyH_take (i := 1) (v := ?_) rfl (by kernel_rfl) (by kernel_rfl) (by kernel_rfl) (fun _ _ _ h => h) (Or.inl ⟨rfl, ?_⟩) (by assumption) ?_; rotate_left; focus (intro W hSw; (try dsimp only at hSw); obtain ⟨_, ⟨a0, a1, a2, a3, a4, a5⟩, _, az⟩ := hSw; go_simp; try (with_reducible rfl))); (try simp only [Act.put, List.getElem_toArray, List.getElem_cons_succ, List.getElem_cons_zero, List.setIfInBounds_toArray, List.set_cons_zero, List.set_cons_succ])
        (refine wpAnyH_take (i := 3) (v := ?_) rfl (by kernel_rfl) (by kernel_rfl) (by kernel_rfl) (fun _ _ _ h => h) (Or.inl ⟨rfl, ?_⟩) (by assumption) ?_; rotate_left; focus (intro W hSw; (try dsimp only at hSw); obtain ⟨_, ⟨a0, a1, a2, a3, a4, a5⟩, _, az⟩ := hSw; go_simp; try (with_reducible rfl))); (try simp only [Act.put, List.getElem_toArray, List.getElem_cons_succ, List.getElem_cons_zero, List.setIfInBounds_toArray, List.set_cons_zero, List.set_cons_succ])
        (refine wpAnyH_take (i := 4) (v := ?_) rfl (by kernel_rfl) (by kernel_rfl) (by kernel_rfl) (fun _ _ _ h => h) (Or.inl ⟨rfl, ?_⟩) (by assumption) ?_; rotate_left; focus (intro W hSw; (try dsimp only at hSw); obtain ⟨_, ⟨a0, a1, a2, a3, a4, a5⟩, _, az⟩ := hSw; go_simp; try (with_reducible rfl))); (try simp only [Act.put, List.getElem_toArray, List.getElem_cons_succ, List.getElem_cons_zero, List.setIfInBounds_toArray, List.set_cons_zero, List.set_cons_succ])
        (refine wpAnyH_take (i := 5) (v := ?_) rfl (by kernel_rfl) (by kernel_rfl) (by kernel_rfl) (fun _ _ _ h => h) (Or.inl ⟨rfl, ?_⟩) (by assumption) ?_; rotate_left; focus (intro W hSw; (try dsimp only at hSw); obtain ⟨_, ⟨a0, a1, a2, a3, a4, a5⟩, _, az⟩ := hSw; go_simp; try (with_reducible rfl))); (try simp only [Act.put, List.getElem_toArray, List.getElem_cons_succ, List.getElem_cons_zero, List.setIfInBounds_toArray, List.set_cons_zero, List.set_cons_succ])
        (refine wpAnyH_take (i := 6) (v := ?_) rfl (by kernel_rfl) (by kernel_rfl) (by kernel_rfl) (fun _ _ _ h => h) (Or.inl ⟨rfl, ?_⟩) (by assumption) ?_; rotate_left; focus (intro W hSw; (try dsimp only at hSw); obtain ⟨_, ⟨a0, a1, a2, a3, a4, a5⟩, _, az⟩ := hSw; go_simp; try (with_reducible rfl))); (try simp only [Act.put, List.getElem_toArray, List.getElem_cons_succ, List.getElem_cons_zero, List.setIfInBounds_toArray, List.set_cons_zero, List.set_cons_succ])
        (refine wpAnyH_take (i := 7) (v := ?_) rfl (by kernel_rfl) (by kernel_rfl) (by kernel_rfl) (fun _ _ _ h => h) (Or.inl ⟨rfl, ?_⟩) (by assumption) ?_; rotate_left; focus (intro W hSw; (try dsimp only at hSw); obtain ⟨_, ⟨a0, a1, a2, a3, a4, a5⟩, _, az⟩ := hSw; go_simp; try (with_reducible rfl))); (try simp only [Act.put, List.getElem_toArray, List.getElem_cons_succ, List.getElem_cons_zero, List.setIfInBounds_toArray, List.set_cons_zero, List.set_cons_succ])
        (refine wpAnyH_take (i := 8) (v := ?_) rfl (by kernel_rfl) (by kernel_rfl) (by kernel_rfl) (fun _ _ _ h => h) (Or.inl ⟨rfl, ?_⟩) (by assumption) ?_; rotate_left; focus (intro W hSw; (try dsimp only at hSw); obtain ⟨_, ⟨a0, a1, a2, a3, a4, a5⟩, _, az⟩ := hSw; go_simp; try (with_reducible rfl))); (try simp only [Act.put, List.getElem_toArray, List.getElem_cons_succ, List.getElem_cons_zero, List.setIfInBounds_toArray, List.set_cons_zero, List.set_cons_succ])
        (refine wpAnyH_take (i := 9) (v := ?_) rfl (by kernel_rfl) (by kernel_rfl) (by kernel_rfl) (fun _ _ _ h => h) (Or.inl ⟨rfl, ?_⟩) (by assumption) ?_; rotate_left; focus (intro W hSw; (try dsimp only at hSw); obtain ⟨_, ⟨a0, a1, a2, a3, a4, a5⟩, _, az⟩ := hSw; go_simp; try (with_reducible rfl))); (try simp only [Act.put, List.getElem_toArray, List.getElem_cons_succ, List.getElem_cons_zero, List.setIfInBounds_toArray, List.set_cons_zero, List.set_cons_succ])
        refine wpAnyH_ready (rs := [2]) (by kernel_rfl) (by simp) ?_; refine AllReadyH.cons rfl (fun K hK => ?_) AllReadyH.nil
        go_simp; (go_at_call 83; refine (inOrder_12 _ _ _ _ _ _ _ HT.out).mono ?_; rintro en wy ⟨rfl, hb2⟩); have HO := Lib.hid (HO.out.below hb2); refine hK.out _ _ ⟨below_after hb2 hHeld.1, hHeld.2.below hb2⟩ (fun hHeld2 => ?_); clear hb2; (clear hHeld; rename _ => hHeld; clear hK K; have hHeld : (fun W => Below wB.heap.size wB W ∧ Bk6 W g x1 y1 x2 y2 x0 y0) _ := hHeld); (try simp only [Act.put, List.getElem_toArray, List.getElem_cons_succ, List.getElem_cons_zero, List.setIfInBounds_toArray, List.set_cons_zero, List.set_cons_succ])
        refine wpAnyH_ready (rs := [10]) (by kernel_rfl) (by simp) ?_; refine AllReadyH.cons rfl (fun K hK => ?_) AllReadyH.nil
        go_simp; (go_at_call 83; refine (inOrder_10 _ _ _ _ _ _ _ HT.out).mono ?_; rintro en wz ⟨rfl, hb2⟩); have HO := Lib.hid (HO.out.below hb2); refine hK.out _ _ ⟨below_after hb2 hHeld.1, hHeld.2.below hb2⟩ (fun hHeld2 => ?_); clear hb2; (clear hHeld; rename _ => hHeld; clear hK K; have hHeld : (fun W => Below wB.heap.size wB W ∧ Bk6 W g x1 y1 x2 y2 x0 y0) _ := hHeld); (try simp only [Act.put, List.getElem_toArray, List.getElem_cons_succ, List.getElem_cons_zero, List.setIfInBounds_toArray, List.set_cons_zero, List.set_cons_succ])
        refine wpAnyH_ready (rs := [11]) (by kernel_rfl) (by simp) ?_; refine AllReadyH.cons rfl (fun K hK => ?_) AllReadyH.nil
        go_simp; obtain ⟨q, hq⟩ : ∃ q, wz.heap.size = q := ⟨_, rfl⟩
        have HC6 : Hid (Bk6 (wz.alloc (.cells #[.int .i64 (enL (keyT x1 y1 x2 y2 x0 y0)), .int .i64 (enP (keyT x1 y1 x2 y2 x0 y0)), .int .i64 (enH (areaP (x0, y0) (x1, y1) (x2, y2)) (keyT x1 y1 x2 y2 x0 y0)), .int .i64 (enL (keyT x1 y1 x0 y0 x2 y2)), .int .i64 (enP (keyT x1 y1 x0 y0 x2 y2)), .int .i64 (enH (areaP (x0, y0) (x1, y1) (x2, y2)) (keyT x1 y1 x0 y0 x2 y2))] 49)) q (enL (keyT x1 y1 x2 y2 x0 y0)) (enP (keyT x1 y1 x2 y2 x0 y0)) (enH (areaP (x0, y0) (x1, y1) (x2, y2)) (keyT x1 y1 x2 y2 x0 y0)) (enL (keyT x1 y1 x0 y0 x2 y2)) (enP (keyT x1 y1 x0 y0 x2 y2)) (enH (areaP (x0, y0) (x1, y1) (x2, y2)) (keyT x1 y1 x0 y0 x2 y2))) := by rw [← hq]; exact bk6_new wz (enL (keyT x1 y1 x2 y2 x0 y0)) (enP (keyT x1 y1 x2 y2 x0 y0)) (enH (areaP (x0, y0) (x1, y1) (x2, y2)) (keyT x1 y1 x2 y2 x0 y0)) (enL (keyT x1 y1 x0 y0 x2 y2)) (enP (keyT x1 y1 x0 y0 x2 y2)) (enH (areaP (x0, y0) (x1, y1) (x2, y2)) (keyT x1 y1 x0 y0 x2 y2)) _
        have HO := Lib.hid (HO.out.below ((Below.refl _ _).alloc (Nat.le_refl _) (.cells #[.int .i64 (enL (keyT x1 y1 x2 y2 x0 y0)), .int .i64 (enP (keyT x1 y1 x2 y2 x0 y0)), .int .i64 (enH (areaP (x0, y0) (x1, y1) (x2, y2)) (keyT x1 y1 x2 y2 x0 y0)), .int .i64 (enL (keyT x1 y1 x0 y0 x2 y2)), .int .i64 (enP (keyT x1 y1 x0 y0 x2 y2)), .int .i64 (enH (areaP (x0, y0) (x1, y1) (x2, y2)) (keyT x1 y1 x0 y0 x2 y2))] 49)))
        refine hK.out _ _ ⟨hHeld.1.alloc hHeld.1.size _, hHeld.2.below ((Below.refl _ _).alloc (Nat.le_refl _) _)⟩ (fun hHeld2 => ?_); (clear hHeld; rename _ => hHeld; clear hK K; have hHeld : (fun W => Below wB.heap.size wB W ∧ Bk6 W g x1 y1 x2 y2 x0 y0) _ := hHeld); (try simp only [Act.put, List.getElem_toArray, List.getElem_cons_succ, List.getElem_cons_zero, List.setIfInBounds_toArray, List.set_cons_zero, List.set_cons_succ])
        rw [hq]; clear hq; obtain ⟨wq, hwq⟩ : ∃ wx, wz.alloc (.cells #[.int .i64 (enL (keyT x1 y1 x2 y2 x0 y0)), .int .i64 (enP (keyT x1 y1 x2 y2 x0 y0)), .int .i64 (enH (areaP (x0, y0) (x1, y1) (x2, y2)) (keyT x1 y1 x2 y2 x0 y0)), .int .i64 (enL (keyT x1 y1 x0 y0 x2 y2)), .int .i64 (enP (keyT x1 y1 x0 y0 x2 y2)), .int .i64 (enH (areaP (x0, y0) (x1, y1) (x2, y2)) (keyT x1 y1 x0 y0 x2 y2))] 49) = wx := ⟨_, rfl⟩; rw [hwq] at HC6 HO hHeld ⊢; clear hwq
        refine wpAnyH_ready (rs := [12]) (by kernel_rfl) (by simp) ?_; refine AllReadyH.cons rfl (fun K hK => ?_) AllReadyH.nil
        refine wp_append_atS (m := 2) (ys := [enL (keyT x1 y1 x2 y2 x0 y0), enP (keyT x1 y1 x2 y2 x0 y0), enH (areaP (x0, y0) (x1, y1) (x2, y2)) (keyT x1 y1 x2 y2 x0 y0), enL (keyT x1 y1 x0 y0 x2 y2), enP (keyT x1 y1 x0 y0 x2 y2), enH (areaP (x0, y0) (x1, y1) (x2, y2)) (keyT x1 y1 x0 y0 x2 y2)]) wB.heap.size _ _ rfl HO.out ?_ rfl hHeld.1.size rfl rfl (by omega) ?_
        · intro j hj
          obtain ⟨⟨c0, c1, c2, c3, c4, c5⟩, _, _⟩ := HC6.out
          have hj : j < 6 := hj
          have hc : j = 0 ∨ j = 1 ∨ j = 2 ∨ j = 3 ∨ j = 4 ∨ j = 5 := by omega
          rcases hc with rfl | rfl | rfl | rfl | rfl | rfl
          · exact c0
          · exact c1
          · exact c2
          · exact c3
          · exact c4
          · exact c5
        intro v' w' ho hgr _
        have hbz : Below wB.heap.size wB w' := hHeld.1.grown hgr hHeld.1.size (fun k hk => (HO.out.lt k hk).1)
        have hkz : Bk6 w' g x1 y1 x2 y2 x0 y0 := hHeld.2.same (hgr.block g hHeld.2.2.2 (by have := HNE.out; exact fun e => this e.symm))
        have ho2 : OwnS wB.heap.size w' v' 4 (flatS (areaP (x0, y0) (x1, y1) (x2, y2)) ((nkL x0 y0 x1 y1 x2 y2).take 4)) := ho
        obtain ⟨va', vc', rfl, _⟩ := own_viewS ho2
        have HOZ := Lib.hid ho2
        clear ho ho2 hgr
        refine hK.out _ _ ⟨hbz, hkz⟩ (fun hHeld2 => ?_); (clear hHeld; rename _ => hHeld; clear hK K; have hHeld : (fun W => Below wB.heap.size wB W ∧ Bk6 W g x1 y1 x2 y2 x0 y0) _ := hHeld); (try simp only [Act.put, List.getElem_toArray, List.getElem_cons_succ, List.getElem_cons_zero, List.setIfInBounds_toArray, List.set_cons_zero, List.set_cons_succ])
        (refine wpAnyH_take (i := 13) (v := ?_) rfl (by kernel_rfl) (by kernel_rfl) (by kernel_rfl) (fun _ _ _ h => h) (Or.inl ⟨rfl, ?_⟩) (by assumption) ?_; rotate_left; focus (intro W hSw; (try dsimp only at hSw); skip; go_simp; try (with_reducible rfl))); (try simp only [Act.put, List.getElem_toArray, List.getElem_cons_succ, List.getElem_cons_zero, List.setIfInBounds_toArray, List.set_cons_zero, List.set_cons_succ])
        refine wpAnyH_done (by kernel_rfl) ?_ _
        go_wp2
        go_roundw
        case rel => exact ⟨1 + 1, va', vc', by omega, rfl, by go_num, HOZ.out, hbz⟩
        case measure => simp [intOf]
      · skip
        have HO1 : Hid (OwnS wB.heap.size wr (.slice va 4 vc) 4 (flatS (areaP (x0, y0) (x1, y1) (x2, y2)) ((nkL x0 y0 x1 y1 x2 y2).take 4))) := HO
        obtain ⟨⟨⟨a0, a1, a2, a3, a4, a5⟩, _, az⟩, _⟩ := HX.out wr hbel
        go_wp2_with fail
        go_at_call 78
        refine (pointsFrom_2 _ _ _ _ _ _ _).mono ?_
        rintro e wx ⟨rfl, bx⟩
        have hbx : Below wB.heap.size wB wx := below_after bx hbel
        have HO2 := Lib.hid (HO1.out.below bx)
        have HLT : Hid (∀ k, (Value.slice va 4 vc).ownBlock = some k → k < wx.heap.size) := fun k hk => (World.ownsRow.lt HO2.out k hk).2
        clear bx hbel a0 a1 a2 a3 a4 a5 az
        go_upto_region 8 with fail
        obtain ⟨g, hg⟩ : ∃ g, wx.heap.size = g := ⟨_, rfl⟩
        obtain ⟨wD, hwD⟩ : ∃ wD, wD = wx.alloc (.cells #[.int .i64 x2, .int .i64 y2, .int .i64 x0, .int .i64 y0, .int .i64 x1, .int .i64 y1] 27) := ⟨_, rfl⟩
        rw [← hwD, hg]
        have hkD : Bk6 wD g x2 y2 x0 y0 x1 y1 := by rw [hwD, ← hg]; exact bk6_new wx x2 y2 x0 y0 x1 y1 _
        have HO := Lib.hid (HO2.out.below ((Below.refl _ _).alloc (Nat.le_refl _) (.cells #[.int .i64 x2, .int .i64 y2, .int .i64 x0, .int .i64 y0, .int .i64 x1, .int .i64 y1] 27)))
        rw [← hwD] at HO
        have hbD : Below wB.heap.size wB wD := by rw [hwD]; exact hbx.alloc hbx.size _
        have HNE : Hid (¬ (Value.slice va 4 vc).ownBlock = some g) := by
          intro hk
          have := HLT.out g hk
          omega
        clear hwD hbx hg HLT
        refine wp_region_held_drew (S := (fun W => Below wB.heap.size wB W ∧ Bk6 W g x2 y2 x0 y0 x1 y1)) (by kernel_rfl) ⟨hbD.drew, hkD.below (Below.drew (Below.refl _ _))⟩ (fun hHeld => ?_)
        have HO := Lib.hid (HO.out.below (Below.drew (Below.refl _ _)))
        have hHeld : (fun W => Below wB.heap.size wB W ∧ Bk6 W g x2 y2 x0 y0 x1 y1) _ := hHeld
        obtain ⟨wE, hwE⟩ : ∃ wE, wD.drew = wE := ⟨_, rfl⟩
        rw [hwE] at hHeld HO ⊢
        clear hwE hkD hbD
        (refine wpAnyH_take (i := 0) (v := ?_) rfl (by kernel_rfl) (by kernel_rfl) (by kernel_rfl) (fun _ _ _ h => h) (Or.inl ⟨rfl, ?_⟩) (by assumption) ?_; rotate_left; focus (intro W hSw; (try dsimp only at hSw); obtain ⟨_, ⟨a0, a1, a2, a3, a4, a5⟩, _, az⟩ := hSw; go_simp; try (with_reducible rfl))); (try simp only [Act.put, List.getElem_toArray, List.getElem_cons_succ, List.getElem_cons_zero, List.setIfInBounds_toArray, List.set_cons_zero, List.set_cons_succ])
        (refine wpAnyH_take (i := 1) (v := ?_) rfl (by kernel_rfl) (by kernel_rfl) (by kernel_rfl) (fun _ _ _ h => h) (Or.inl ⟨rfl, ?_⟩) (by assumption) ?_; rotate_left; focus (intro W hSw; (try dsimp only at hSw); obtain ⟨_, ⟨a0, a1, a2, a3, a4, a5⟩, _, az⟩ := hSw; go_simp; try (with_reducible rfl))); (try simp only [Act.put, List.getElem_toArray, List.getElem_cons_succ, List.getElem_cons_zero, List.setIfInBounds_toArray, List.set_cons_zero, List.set_cons_succ])
        (refine wpAnyH_take (i := 3) (v := ?_) rfl (by kernel_rfl) (by kernel_rfl) (by kernel_rfl) (fun _ _ _ h => h) (Or.inl ⟨rfl, ?_⟩) (by assumption) ?_; rotate_left; focus (intro W hSw; (try dsimp only at hSw); obtain ⟨_, ⟨a0, a1, a2, a3, a4, a5⟩, _, az⟩ := hSw; go_simp; try (with_reducible rfl))); (try simp only [Act.put, List.getElem_toArray, List.getElem_cons_succ, List.getElem_cons_zero, List.setIfInBounds_toArray, List.set_cons_zero, List.set_cons_succ])
        (refine wpAnyH_take (i := 4) (v := ?_) rfl (by kernel_rfl) (by kernel_rfl) (by kernel_rfl) (fun _ _ _ h => h) (Or.inl ⟨rfl, ?_⟩) (by assumption) ?_; rotate_left; focus (intro W hSw; (try dsimp only at hSw); obtain ⟨_, ⟨a0, a1, a2, a3, a4, a5⟩, _, az⟩ := hSw; go_simp; try (with_reducible rfl))); (try simp only [Act.put, List.getElem_toArray, List.getElem_cons_succ, List.getElem_cons_zero, List.setIfInBounds_toArray, List.set_cons_zero, List.set_cons_succ])
        (refine wpAnyH_take (i := 5) (v := ?_) rfl (by kernel_rfl) (by kernel_rfl) (by kernel_rfl) (fun _ _ _ h => h) (Or.inl ⟨rfl, ?_⟩) (by assumption) ?_; rotate_left; focus (intro W hSw; (try dsimp only at hSw); obtain ⟨_, ⟨a0, a1, a2, a3, a4, a5⟩, _, az⟩ := hSw; go_simp; try (with_reducible rfl))); (try simp only [Act.put, List.getElem_toArray, List.getElem_cons_succ, List.getElem_cons_zero, List.setIfInBounds_toArray, List.set_cons_zero, List.set_cons_succ])
        (refine wpAnyH_take (i := 6) (v := ?_) rfl (by kernel_rfl) (by kernel_rfl) (by kernel_rfl) (fun _ _ _ h => h) (Or.inl ⟨rfl, ?_⟩) (by assumption) ?_; rotate_left; focus (intro W hSw; (try dsimp only at hSw); obtain ⟨_, ⟨a0, a1, a2, a3, a4, a5⟩, _, az⟩ := hSw; go_simp; try (with_reducible rfl))); (try simp only [Act.put, List.getElem_toArray, List.getElem_cons_succ, List.getElem_cons_zero, List.setIfInBounds_toArray, List.set_cons_zero, List.set_cons_succ])
        (refine wpAnyH_take (i := 7) (v := ?_) rfl (by kernel_rfl) (by kernel_rfl) (by kernel_rfl) (fun _ _ _ h => h) (Or.inl ⟨rfl, ?_⟩) (by assumption) ?_; rotate_left; focus (intro W hSw; (try dsimp only at hSw); obtain ⟨_, ⟨a0, a1, a2, a3, a4, a5⟩, _, az⟩ := hSw; go_simp; try (with_reducible rfl))); (try simp only [Act.put, List.getElem_toArray, List.getElem_cons_succ, List.getElem_cons_zero, List.setIfInBounds_toArray, List.set_cons_zero, List.set_cons_succ])
        (refine wpAnyH_take (i := 8) (v := ?_) rfl (by kernel_rfl) (by kernel_rfl) (by kernel_rfl) (fun _ _ _ h => h) (Or.inl ⟨rfl, ?_⟩) (by assumption) ?_; rotate_left; focus (intro W hSw; (try dsimp only at hSw); obtain ⟨_, ⟨a0, a1, a2, a3, a4, a5⟩, _, az⟩ := hSw; go_simp; try (with_reducible rfl))); (try simp only [Act.put, List.getElem_toArray, List.getElem_cons_succ, List.getElem_cons_zero, List.setIfInBounds_toArray, List.set_cons_zero, List.set_cons_succ])
        (refine wpAnyH_take (i := 9) (v := ?_) rfl (by kernel_rfl) (by kernel_rfl) (by kernel_rfl) (fun _ _ _ h => h) (Or.inl ⟨rfl, ?_⟩) (by assumption) ?_; rotate_left; focus (intro W hSw; (try dsimp only at hSw); obtain ⟨_, ⟨a0, a1, a2, a3, a4, a5⟩, _, az⟩ := hSw; go_simp; try (with_reducible rfl))); (try simp only [Act.put, List.getElem_toArray, List.getElem_cons_succ, List.getElem_cons_zero, List.setIfInBounds_toArray, List.set_cons_zero, List.set_cons_succ])
        refine wpAnyH_ready (rs := [2]) (by kernel_rfl) (by simp) ?_; refine AllReadyH.cons rfl (fun K hK => ?_) AllReadyH.nil
        go_simp; (go_at_call 83; refine (inOrder_20 _ _ _ _ _ _ _ HT.out).mono ?_; rintro en wy ⟨rfl, hb2⟩); have HO := Lib.hid (HO.out.below hb2); refine hK.out _ _ ⟨below_after hb2 hHeld.1, hHeld.2.below hb2⟩ (fun hHeld2 => ?_); clear hb2; (clear hHeld; rename _ => hHeld; clear hK K; have hHeld : (fun W => Below wB.heap.size wB W ∧ Bk6 W g x2 y2 x0 y0 x1 y1) _ := hHeld); (try simp only [Act.put, List.getElem_toArray, List.getElem_cons_succ, List.getElem_cons_zero, List.setIfInBounds_toArray, List.set_cons_zero, List.set_cons_succ])
        refine wpAnyH_ready (rs := [10]) (by kernel_rfl) (by simp) ?_; refine AllReadyH.cons rfl (fun K hK => ?_) AllReadyH.nil
        go_simp; (go_at_call 83; refine (inOrder_21 _ _ _ _ _ _ _ HT.out).mono ?_; rintro en wz ⟨rfl, hb2⟩); have HO := Lib.hid (HO.out.below hb2); refine hK.out _ _ ⟨below_after hb2 hHeld.1, hHeld.2.below hb2⟩ (fun hHeld2 => ?_); clear hb2; (clear hHeld; rename _ => hHeld; clear hK K; have hHeld : (fun W => Below wB.heap.size wB W ∧ Bk6 W g x2 y2 x0 y0 x1 y1) _ := hHeld); (try simp only [Act.put, List.getElem_toArray, List.getElem_cons_succ, List.getElem_cons_zero, List.setIfInBounds_toArray, List.set_cons_zero, List.set_cons_succ])
        refine wpAnyH_ready (rs := [11]) (by kernel_rfl) (by simp) ?_; refine AllReadyH.cons rfl (fun K hK => ?_) AllReadyH.nil
        go_simp; obtain ⟨q, hq⟩ : ∃ q, wz.heap.size = q := ⟨_, rfl⟩
        have HC6 : Hid (Bk6 (wz.alloc (.cells #[.int .i64 (enL (keyT x2 y2 x0 y0 x1 y1)), .int .i64 (enP (keyT x2 y2 x0 y0 x1 y1)), .int .i64 (enH (areaP (x0, y0) (x1, y1) (x2, y2)) (keyT x2 y2 x0 y0 x1 y1)), .int .i64 (enL (keyT x2 y2 x1 y1 x0 y0)), .int .i64 (enP (keyT x2 y2 x1 y1 x0 y0)), .int .i64 (enH (areaP (x0, y0) (x1, y1) (x2, y2)) (keyT x2 y2 x1 y1 x0 y0))] 49)) q (enL (keyT x2 y2 x0 y0 x1 y1)) (enP (keyT x2 y2 x0 y0 x1 y1)) (enH (areaP (x0, y0) (x1, y1) (x2, y2)) (keyT x2 y2 x0 y0 x1 y1)) (enL (keyT x2 y2 x1 y1 x0 y0)) (enP (keyT x2 y2 x1 y1 x0 y0)) (enH (areaP (x0, y0) (x1, y1) (x2, y2)) (keyT x2 y2 x1 y1 x0 y0))) := by rw [← hq]; exact bk6_new wz (enL (keyT x2 y2 x0 y0 x1 y1)) (enP (keyT x2 y2 x0 y0 x1 y1)) (enH (areaP (x0, y0) (x1, y1) (x2, y2)) (keyT x2 y2 x0 y0 x1 y1)) (enL (keyT x2 y2 x1 y1 x0 y0)) (enP (keyT x2 y2 x1 y1 x0 y0)) (enH (areaP (x0, y0) (x1, y1) (x2, y2)) (keyT x2 y2 x1 y1 x0 y0)) _
        have HO := Lib.hid (HO.out.below ((Below.refl _ _).alloc (Nat.le_refl _) (.cells #[.int .i64 (enL (keyT x2 y2 x0 y0 x1 y1)), .int .i64 (enP (keyT x2 y2 x0 y0 x1 y1)), .int .i64 (enH (areaP (x0, y0) (x1, y1) (x2, y2)) (keyT x2 y2 x0 y0 x1 y1)), .int .i64 (enL (keyT x2 y2 x1 y1 x0 y0)), .int .i64 (enP (keyT x2 y2 x1 y1 x0 y0)), .int .i64 (enH (areaP (x0, y0) (x1, y1) (x2, y2)) (keyT x2 y2 x1 y1 x0 y0))] 49)))
        refine hK.out _ _ ⟨hHeld.1.alloc hHeld.1.size _, hHeld.2.below ((Below.refl _ _).alloc (Nat.le_refl _) _)⟩ (fun hHeld2 => ?_); (clear hHeld; rename _ => hHeld; clear hK K; have hHeld : (fun W => Below wB.heap.size wB W ∧ Bk6 W g x2 y2 x0 y0 x1 y1) _ := hHeld); (try simp only [Act.put, List.getElem_toArray, List.getElem_cons_succ, List.getElem_cons_zero, List.setIfInBounds_toArray, List.set_cons_zero, List.set_cons_succ])
        rw [hq]; clear hq; obtain ⟨wq, hwq⟩ : ∃ wx, wz.alloc (.cells #[.int .i64 (enL (keyT x2 y2 x0 y0 x1 y1)), .int .i64 (enP (keyT x2 y2 x0 y0 x1 y1)), .int .i64 (enH (areaP (x0, y0) (x1, y1) (x2, y2)) (keyT x2 y2 x0 y0 x1 y1)), .int .i64 (enL (keyT x2 y2 x1 y1 x0 y0)), .int .i64 (enP (keyT x2 y2 x1 y1 x0 y0)), .int .i64 (enH (areaP (x0, y0) (x1, y1) (x2, y2)) (keyT x2 y2 x1 y1 x0 y0))] 49) = wx := ⟨_, rfl⟩; rw [hwq] at HC6 HO hHeld ⊢; clear hwq
        refine wpAnyH_ready (rs := [12]) (by kernel_rfl) (by simp) ?_; refine AllReadyH.cons rfl (fun K hK => ?_) AllReadyH.nil
        refine wp_append_atS (m := 2) (ys := [enL (keyT x2 y2 x0 y0 x1 y1), enP (keyT x2 y2 x0 y0 x1 y1), enH (areaP (x0, y0) (x1, y1) (x2, y2)) (keyT x2 y2 x0 y0 x1 y1), enL (keyT x2 y2 x1 y1 x0 y0), enP (keyT x2 y2 x1 y1 x0 y0), enH (areaP (x0, y0) (x1, y1) (x2, y2)) (keyT x2 y2 x1 y1 x0 y0)]) wB.heap.size _ _ rfl HO.out ?_ rfl hHeld.1.size rfl rfl (by omega) ?_
        · intro j hj
          obtain ⟨⟨c0, c1, c2, c3, c4, c5⟩, _, _⟩ := HC6.out
          have hj : j < 6 := hj
          have hc : j = 0 ∨ j = 1 ∨ j = 2 ∨ j = 3 ∨ j = 4 ∨ j = 5 := by omega
          rcases hc with rfl | rfl | rfl | rfl | rfl | rfl
          · exact c0
          · exact c1
          · exact c2
          · exact c3
          · exact c4
          · exact c5
        intro v' w' ho hgr _
        have hbz : Below wB.heap.size wB w' := hHeld.1.grown hgr hHeld.1.size (fun k hk => (HO.out.lt k hk).1)
        have hkz : Bk6 w' g x2 y2 x0 y0 x1 y1 := hHeld.2.same (hgr.block g hHeld.2.2.2 (by have := HNE.out; exact fun e => this e.symm))
        have ho2 : OwnS wB.heap.size w' v' 6 (flatS (areaP (x0, y0) (x1, y1) (x2, y2)) ((nkL x0 y0 x1 y1 x2 y2).take 6)) := ho
        obtain ⟨va', vc', rfl, _⟩ := own_viewS ho2
        have HOZ := Lib.hid ho2
        clear ho ho2 hgr
        refine hK.out _ _ ⟨hbz, hkz⟩ (fun hHeld2 => ?_); (clear hHeld; rename _ => hHeld; clear hK K; have hHeld : (fun W => Below wB.heap.size wB W ∧ Bk6 W g x2 y2 x0 y0 x1 y1) _ := hHeld); (try simp only [Act.put, List.getElem_toArray, List.getElem_cons_succ, List.getElem_cons_zero, List.setIfInBounds_toArray, List.set_cons_zero, List.set_cons_succ])
        (refine wpAnyH_take (i := 13) (v := ?_) rfl (by kernel_rfl) (by kernel_rfl) (by kernel_rfl) (fun _ _ _ h => h) (Or.inl ⟨rfl, ?_⟩) (by assumption) ?_; rotate_left; focus (intro W hSw; (try dsimp only at hSw); skip; go_simp; try (with_reducible rfl))); (try simp only [Act.put, List.getElem_toArray, List.getElem_cons_succ, List.getElem_cons_zero, List.setIfInBounds_toArray, List.set_cons_zero, List.set_cons_succ])
        refine wpAnyH_done (by kernel_rfl) ?_ _
        go_wp2
        go_roundw
        case rel => exact ⟨2 + 1, va', vc', by omega, rfl, by go_num, HOZ.out, hbz⟩
        case measure => simp [intOf]
      · have HO1 : Hid (OwnS wB.heap.size wr (.slice va 6 vc) (nkL x0 y0 x1 y1 x2 y2).length (flatS (areaP (x0, y0) (x1, y1) (x2, y2)) (nkL x0 y0 x1 y1 x2 y2))) := HO
        go_wp2_with fail
        go_at_call 85
        refine (minFunc_own (areaP (x0, y0) (x1, y1) (x2, y2)) (nkL x0 y0 x1 y1 x2 y2) wB.heap.size _ _ HO1.out (by show 1 ≤ 6; decide) (by show 6 ≤ 1000; decide) (nkL_ge HT.out)).mono ?_
        have hmn : minN (nkL x0 y0 x1 y1 x2 y2) ((nkL x0 y0 x1 y1 x2 y2).length - 1) = nK x0 y0 x1 y1 x2 y2 := rfl
        rw [hmn]
        rintro e wm ⟨rfl, bm⟩
        have hbm : Below wB.heap.size wB wm := below_after bm hbel
        obtain ⟨_, ⟨⟨a0, a1, a2⟩, ⟨a3, a4, a5⟩, a6⟩⟩ := HX.out wm hbm
        have hbF := below_after hbm HBW.out
        clear bm hbel hbm
        go_wp2
        refine bodyPost_ret (v := .tuple #[.agg #[.int .i64 (enL (nK x0 y0 x1 y1 x2 y2)), .int .i64 (enP (nK x0 y0 x1 y1 x2 y2)), .int .i64 (enH (areaP (x0, y0) (x1, y1) (x2, y2)) (nK x0 y0 x1 y1 x2 y2))], .int .i64 0]) (by simp (maxDischargeDepth := 8) [results, Try.results43, go_sem, *]) rfl ?_
        exact ⟨rfl, by (repeat' (first | (with_reducible exact hbF) | (with_reducible refine Below.setCell ?_ ?_ _) | go_size))⟩
end Go.Proofs.Ytcgaikedbhdbgaa
