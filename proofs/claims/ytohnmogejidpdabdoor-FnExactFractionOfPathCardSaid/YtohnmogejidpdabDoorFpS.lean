/-
  FractionOfPath in the model (own work).
-/
import Derived.Test.YtohnmogejidpdabDoorFpM
import Derived.Test.YtohnmogejidpdabDoorPthB
import Derived.Test.YtohnmogejidpdabDoorBlk
import Derived.Test.YtohnmogejidpdabDoorNbS
import Derived.Test.YtohnmogejidpdabDoorFdS
namespace Go.Proofs.YtohnmogejidpdabDoor
open Go.ChangeShapes Go.WideShapes Go.ChangeAt Go.RowKit
set_option linter.unusedVariables false
set_option maxRecDepth 100000
set_option linter.unusedSimpArgs false
set_option maxRecDepth 100000

theorem at_byte (l : List UInt8) (i : Nat) (b : UInt8) (hi : i < l.length) (hb : l[i] = b) : ∀ h, (({ data := l.toArray } : ByteArray)[i]'h) = b := fun h => by
  show l.toArray[i]'(by simpa using hi) = b
  simpa using hb
theorem byte_ne {b c : UInt8} (h : ¬ b = c) : ((b.toNat : Int) != (c.toNat : Int)) = true ∧ ((b.toNat : Int) == (c.toNat : Int)) = false := by
  have : ¬ (b.toNat : Int) = (c.toNat : Int) := fun k => h (UInt8.toNat_inj.1 (by omega))
  simp [this]
set_option maxHeartbeats 3200000 in
theorem spec_FractionOfPath_any (l : List UInt8) (w : World) (hl : l.length ≤ 1048576) :
    Calls Tryd.prog 5 #[.string ⟨l.toArray⟩] w fun e w' => e = .returned (.tuple #[.agg #[.int .i64 (onz (fpC l) (fpX l)), .int .i64 (onz (fpC l) (fpY l))], .int .i64 (fpC l)]) ∧ Below w.heap.size w w' := by
  have hsz := bytes_size l
  by_cases hlong : 60 < l.length
  · have hc : fpC l = 2 := fpC_range (.inl hlong)
    rw [hc, onz_no (by decide), onz_no (by decide)]
    have hg : decide (60 < (l.length : Int)) = true := by simp; omega
    have hs20 : w.heap.size < w.heap.size + 1 + 1 := (by omega); have hs30 : w.heap.size < w.heap.size + 1 + 1 + 1 := (by omega); have hs31 : w.heap.size + 1 < w.heap.size + 1 + 1 + 1 := (by omega); have hs40 : w.heap.size < w.heap.size + 1 + 1 + 1 + 1 := (by omega); have hs41 : w.heap.size + 1 < w.heap.size + 1 + 1 + 1 + 1 := (by omega); have hs42 : w.heap.size + 1 + 1 < w.heap.size + 1 + 1 + 1 + 1 := (by omega)
    go_enter Tryd.func5, Tryd.ntmps5
    go_wp2_with fail
    refine bodyPost_ret (v := .tuple #[.agg #[.int .i64 0, .int .i64 0], .int .i64 2]) (by simp (maxDischargeDepth := 8) [results, Tryd.results5, go_sem, *]) rfl ?_
    exact ⟨rfl, by (repeat' (first | (with_reducible exact Below.refl _ _) | (with_reducible refine Below.alloc ?_ ?_ _) | (with_reducible refine Below.setCell ?_ ?_ _) | (with_reducible refine Below.drew ?_) | (with_reducible refine below_drewN ?_ _) | (with_reducible assumption) | (with_reducible refine below_after (by with_reducible assumption) ?_) | go_size))⟩
  · have hg : decide (60 < (l.length : Int)) = false := by simp; omega
    have HBad : Hid (okL l = false → fpC l = 2) := fun h => fpC_range (.inr h)
    have HOk : Hid (okL l = true → fpC l = if isPt (fpX l, fpY l) = true then 0 else 3) := fun h => fpC_in (by rw [h]; simp; omega)
    have HFin : Hid (fpS l 0 1 1 0 = ((((fpS l 0 1 1 0).1.1, (fpS l 0 1 1 0).1.2), (fpS l 0 1 1 0).2.1, (fpS l 0 1 1 0).2.2) : (Int × Int) × Int × Int) ∧ fpX l = (fpS l 0 1 1 0).1.1 + (fpS l 0 1 1 0).2.1 ∧ fpY l = (fpS l 0 1 1 0).1.2 + (fpS l 0 1 1 0).2.2) := ⟨rfl, rfl, rfl⟩
    generalize (fpS l 0 1 1 0).1.1 = F0 at *
    generalize (fpS l 0 1 1 0).1.2 = F1 at *
    generalize (fpS l 0 1 1 0).2.1 = F2 at *
    generalize (fpS l 0 1 1 0).2.2 = F3 at *
    generalize fpX l = X at *
    generalize fpY l = Y at *
    generalize fpC l = C at *
    obtain ⟨RX, hRX⟩ : ∃ R, onz C X = R := ⟨_, rfl⟩
    obtain ⟨RY, hRY⟩ : ∃ R, onz C Y = R := ⟨_, rfl⟩
    have HRX : Hid (RX = onz C X ∧ RY = onz C Y) := ⟨hRX.symm, hRY.symm⟩
    rw [hRX, hRY]
    clear hRX hRY
    have HPl : Hid (∀ l0 l1 r0 r1 w, Bn l0 → Bn l1 → Bn r0 → Bn r1 → Calls Tryd.prog 14 #[.agg #[.int .i64 l0, .int .i64 l1], .agg #[.int .i64 r0, .int .i64 r1], .int .i64 1] w fun e w' => e = .returned (.agg #[.int .i64 (l0 + r0), .int .i64 (l1 + r1)]) ∧ Below w.heap.size w w') := fun l0 l1 r0 r1 w h0 h1 h2 h3 => by
      have := l01Plus_any l0 l1 r0 r1 1 w h0 h1 h2 h3 ⟨by decide, by decide⟩
      rw [Int.one_mul, Int.one_mul] at this
      exact this
    have hs20 : w.heap.size < w.heap.size + 1 + 1 := (by omega); have hs30 : w.heap.size < w.heap.size + 1 + 1 + 1 := (by omega); have hs31 : w.heap.size + 1 < w.heap.size + 1 + 1 + 1 := (by omega)
    go_enter Tryd.func5, Tryd.ntmps5
    go_wp2_with fail
    go_loopw [4] (fun x wr => ∃ i : Nat, x = .int .i64 (i : Int) ∧ i ≤ l.length ∧ okL (l.take i) = true ∧ wr = w.alloc (.cells #[.int .i64 0, .int .i64 0] 23)) (fun x _ => 100 - (intOf x).toNat)
    case atStart => exact ⟨0, rfl, by omega, rfl, rfl⟩
    case round =>
      obtain ⟨i, rfl, hi, hok, rfl⟩ := hrel
      by_cases hil : i < l.length
      · have hlt : decide ((i : Int) < (l.length : Int)) = true := by simp; omega
        obtain ⟨b, hb⟩ : ∃ b, l[i] = b := ⟨_, rfl⟩
        have hidx := at_byte l i b hil hb
        have HI : Hid (okL (l.take i) = true ∧ i < l.length ∧ ∀ h : i < l.length, l[i] = b) := ⟨hok, hil, fun _ => hb⟩
        clear hb hok
        by_cases h76 : b = 76
        · subst h76
          have HI2 : Hid (okL (l.take (i + 1)) = true) := okL_take hil HI.out.1 (by rw [HI.out.2.2 hil]; rfl)
          go_wp2_with fail
          go_roundw
          case rel => exact ⟨i + 1, rfl, by omega, HI2.out, by first | rfl | trivial⟩
          case measure => simp only [intOf]; omega
        · by_cases h82 : b = 82
          · subst h82
            have HI2 : Hid (okL (l.take (i + 1)) = true) := okL_take hil HI.out.1 (by rw [HI.out.2.2 hil]; rfl)
            go_wp2_with fail
            go_roundw
            case rel => exact ⟨i + 1, rfl, by omega, HI2.out, by first | rfl | trivial⟩
            case measure => simp only [intOf]; omega
          · have hk := HBad.out (okL_bad hil (by rw [HI.out.2.2 hil]; simp [isLt, h76, h82]))
            subst hk
            obtain ⟨n1, n2⟩ := byte_ne h76
            obtain ⟨n3, n4⟩ := byte_ne h82
            have e76 : ((76 : UInt8).toNat : Int) = 76 := rfl
            have e82 : ((82 : UInt8).toNat : Int) = 82 := rfl
            rw [e76] at n1 n2
            rw [e82] at n3 n4
            have r0 : RX = 0 := HRX.out.1.trans (onz_no (by decide))
            have r1 : RY = 0 := HRX.out.2.trans (onz_no (by decide))
            subst r0
            subst r1
            clear e76 e82 h76 h82
            go_wp2_with fail
            refine bodyPost_ret (v := .tuple #[.agg #[.int .i64 0, .int .i64 0], .int .i64 2]) (by simp (maxDischargeDepth := 8) [results, Tryd.results5, go_sem, *]) rfl ?_
            exact ⟨rfl, by (repeat' (first | (with_reducible exact Below.refl _ _) | (with_reducible refine Below.alloc ?_ ?_ _) | (with_reducible refine Below.setCell ?_ ?_ _) | (with_reducible refine Below.drew ?_) | (with_reducible refine below_drewN ?_ _) | (with_reducible assumption) | (with_reducible refine below_after (by with_reducible assumption) ?_) | go_size))⟩
      · have hlt : decide ((i : Int) < (l.length : Int)) = false := by simp; omega
        have hall : l.take i = l := List.take_of_length_le (by omega)
        rw [hall] at hok
        have HC := Lib.hid (HOk.out hok)
        clear hok hall
        go_wp2_with fail
        obtain ⟨wB, hwB⟩ : ∃ wB, wB = ((w.alloc (.cells #[.int .i64 0, .int .i64 0] 23)).alloc (.cells #[.int .i64 0, .int .i64 1] 23)).alloc (.cells #[.int .i64 1, .int .i64 0] 23) := ⟨_, rfl⟩
        rw [← hwB]
        have hbB : Below w.heap.size w wB := by rw [hwB]; (repeat' (first | (with_reducible exact Below.refl _ _) | (with_reducible refine Below.alloc ?_ ?_ _) | (with_reducible refine Below.setCell ?_ ?_ _) | (with_reducible refine Below.drew ?_) | (with_reducible refine below_drewN ?_ _) | (with_reducible assumption) | (with_reducible refine below_after (by with_reducible assumption) ?_) | go_size))
        have hB0 : Bk2 wB w.heap.size 0 0 := by
          have h := (bk2_new w 0 0 23).below (((Below.refl _ _).alloc (Nat.le_refl _) (.cells #[.int .i64 0, .int .i64 1] 23)).alloc (by simp) (.cells #[.int .i64 1, .int .i64 0] 23))
          rw [← hwB] at h
          exact h
        have hB1 : Bk2 wB (w.heap.size + 1) 0 1 := by
          have h := (bk2_new (w.alloc (.cells #[.int .i64 0, .int .i64 0] 23)) 0 1 23).below ((Below.refl _ _).alloc (Nat.le_refl _) (.cells #[.int .i64 1, .int .i64 0] 23))
          rw [← hwB, World.size_alloc] at h
          exact h
        have hB2 : Bk2 wB (w.heap.size + 1 + 1) 1 0 := by
          have h := bk2_new ((w.alloc (.cells #[.int .i64 0, .int .i64 0] 23)).alloc (.cells #[.int .i64 0, .int .i64 1] 23)) 1 0 23
          rw [← hwB, World.size_alloc, World.size_alloc] at h
          exact h
        clear hwB
        go_loopw [7] (fun x wr => ∃ (i : Nat) (l0 l1 r0 r1 : Int), x = .int .i64 (i : Int) ∧ i ≤ l.length ∧ 0 ≤ l0 ∧ l0 ≤ 1000000 ∧ 0 ≤ l1 ∧ l1 ≤ 1000000 ∧ 0 ≤ r0 ∧ r0 ≤ 1000000 ∧ 0 ≤ r1 ∧ r1 ≤ 1000000 ∧ fpS (l.drop i) l0 l1 r0 r1 = ((F0, F1), F2, F3) ∧ Bk2 wr w.heap.size 0 0 ∧ Bk2 wr (w.heap.size + 1) l0 l1 ∧ Bk2 wr (w.heap.size + 1 + 1) r0 r1 ∧ Below w.heap.size w wr)
          (fun x _ => 100 - (intOf x).toNat)
        case atStart => exact ⟨0, 0, 1, 1, 0, rfl, by omega, by omega, by omega, by omega, by omega, by omega, by omega, by omega, by omega, HFin.out.1, hB0, hB1, hB2, hbB⟩
        case round =>
          obtain ⟨j, l0, l1, r0, r1, rfl, hi, l00, l01, l10, l11, r00, r01, r10, r11, hF, hb0, hb4, hb5, hbel⟩ := hrel
          have HFS := Lib.hid hF
          obtain ⟨⟨a0, a1⟩, ⟨a2, a3⟩, az⟩ := hb0
          obtain ⟨⟨b0, b1⟩, ⟨b2, b3⟩, bz⟩ := hb4
          obtain ⟨⟨c0, c1⟩, ⟨c2, c3⟩, cz⟩ := hb5
          have HB : Hid (Bk2 wr w.heap.size 0 0 ∧ Bk2 wr (w.heap.size + 1) l0 l1 ∧ Bk2 wr (w.heap.size + 1 + 1) r0 r1 ∧ Below w.heap.size w wr) := ⟨⟨⟨a0, a1⟩, ⟨a2, a3⟩, az⟩, ⟨⟨b0, b1⟩, ⟨b2, b3⟩, bz⟩, ⟨⟨c0, c1⟩, ⟨c2, c3⟩, cz⟩, hbel⟩
          clear hF hbel
          by_cases hjl : j < l.length
          · have hlt : decide ((j : Int) < (l.length : Int)) = true := by simp; omega
            obtain ⟨b, hb⟩ : ∃ b, l[j] = b := ⟨_, rfl⟩
            have hidx := at_byte l j b hjl hb
            have HI : Hid (l.drop j = b :: l.drop (j + 1)) := by
              show l.drop j = b :: l.drop (j + 1)
              rw [drop_at hjl, hb]
            have HLE : Hid (l0 + r0 ≤ X ∧ l1 + r1 ≤ Y) := by
              have := fpS_le (l.drop j) l0 l1 r0 r1 l00 l10 r00 r10
              rw [HFS.out] at this
              have h2 := HFin.out.2
              show l0 + r0 ≤ X ∧ l1 + r1 ≤ Y
              simp only at this
              omega
            clear hb
            go_wp2_with fail
            go_at_call 14
            refine (HPl.out _ _ _ _ _ ⟨by omega, by omega⟩ ⟨by omega, by omega⟩ ⟨by omega, by omega⟩ ⟨by omega, by omega⟩).mono ?_
            rintro e w2 ⟨rfl, hb⟩
            have HB2 : Hid (Bk2 w2 w.heap.size 0 0 ∧ Bk2 w2 (w.heap.size + 1) l0 l1 ∧ Bk2 w2 (w.heap.size + 1 + 1) r0 r1 ∧ Below w.heap.size w w2) := ⟨HB.out.1.below hb, HB.out.2.1.below hb, HB.out.2.2.1.below hb, below_after hb HB.out.2.2.2⟩
            clear hb a0 a1 a2 a3 az b0 b1 b2 b3 bz c0 c1 c2 c3 cz
            obtain ⟨⟨⟨a0, a1⟩, ⟨a2, a3⟩, az⟩, ⟨⟨b0, b1⟩, ⟨b2, b3⟩, bz⟩, ⟨⟨c0, c1⟩, ⟨c2, c3⟩, cz⟩, hbw⟩ := HB2.out
            have z0 : ¬ w.heap.size = w2.heap.size := by omega
            have z1 : ¬ w.heap.size + 1 = w2.heap.size := by omega
            have z2 : ¬ w.heap.size + 1 + 1 = w2.heap.size := by omega
            have z3 : ¬ w2.heap.size = w.heap.size + 1 := fun h => z1 h.symm
            have z4 : ¬ w2.heap.size = w.heap.size + 1 + 1 := fun h => z2 h.symm
            have z5 : ¬ w2.heap.size = w.heap.size := fun h => z0 h.symm
            clear hbw
            by_cases h76 : b = 76
            · subst h76
              go_wp2_with fail
              obtain ⟨wC, hwC⟩ : ∃ wC, wC = ((w2.setCell ⟨w.heap.size + 1 + 1, 0, none⟩ (.int .i64 (l0 + r0))).setCell ⟨w.heap.size + 1 + 1, 1, none⟩ (.int .i64 (l1 + r1))).alloc (.cells #[.int .i64 (l0 + r0), .int .i64 (l1 + r1)] 23) := ⟨_, rfl⟩
              rw [← hwC]
              have HC3 : Hid (Bk2 wC w.heap.size 0 0 ∧ Bk2 wC (w.heap.size + 1) l0 l1 ∧ Bk2 wC (w.heap.size + 1 + 1) (l0 + r0) (l1 + r1) ∧ Below w.heap.size w wC ∧ Bk2 wC w2.heap.size (l0 + r0) (l1 + r1)) := by
                obtain ⟨k0, k1, k2, kw⟩ := HB2.out
                have ha : Below ((w2.setCell ⟨w.heap.size + 1 + 1, 0, none⟩ (.int .i64 (l0 + r0))).setCell ⟨w.heap.size + 1 + 1, 1, none⟩ (.int .i64 (l1 + r1))).heap.size ((w2.setCell ⟨w.heap.size + 1 + 1, 0, none⟩ (.int .i64 (l0 + r0))).setCell ⟨w.heap.size + 1 + 1, 1, none⟩ (.int .i64 (l1 + r1))) wC := by rw [hwC]; exact (Below.refl _ _).alloc (Nat.le_refl _) _
                refine ⟨((k0.far ⟨w.heap.size + 1 + 1, 0, none⟩ (.int .i64 (l0 + r0)) (by show w.heap.size ≠ w.heap.size + 1 + 1; omega)).far ⟨w.heap.size + 1 + 1, 1, none⟩ (.int .i64 (l1 + r1)) (by show w.heap.size ≠ w.heap.size + 1 + 1; omega)).below ha, ((k1.far ⟨w.heap.size + 1 + 1, 0, none⟩ (.int .i64 (l0 + r0)) (by show w.heap.size + 1 ≠ w.heap.size + 1 + 1; omega)).far ⟨w.heap.size + 1 + 1, 1, none⟩ (.int .i64 (l1 + r1)) (by show w.heap.size + 1 ≠ w.heap.size + 1 + 1; omega)).below ha, ((k2.set0 (l0 + r0)).set1 (l1 + r1)).below ha, ?_, ?_⟩
                · rw [hwC]
                  exact Below.alloc (Below.setCell (Below.setCell kw (by show w.heap.size ≤ w.heap.size + 1 + 1; omega) _) (by show w.heap.size ≤ w.heap.size + 1 + 1; omega) _) (by simp only [World.size_setCell]; omega) _
                · have hn := bk2_new ((w2.setCell ⟨w.heap.size + 1 + 1, 0, none⟩ (.int .i64 (l0 + r0))).setCell ⟨w.heap.size + 1 + 1, 1, none⟩ (.int .i64 (l1 + r1))) (l0 + r0) (l1 + r1) 23
                  rw [← hwC] at hn
                  simpa only [World.size_setCell] using hn
              clear hwC a0 a1 a2 a3 az b0 b1 b2 b3 bz c0 c1 c2 c3 cz
              cases hq : isPt (l0 + r0, l1 + r1)
              · have hq2 : isPt (X, Y) = false := isPt_big hq (by omega) (by omega) HLE.out.1 HLE.out.2
                have hc3 : C = 3 := by rw [HC.out, hq2]; rfl
                subst hc3
                have hr0 : RX = 0 := HRX.out.1.trans (onz_no (by decide))
                have hr1 : RY = 0 := HRX.out.2.trans (onz_no (by decide))
                subst hr0
                subst hr1
                clear hq2
                go_at_call 15
                refine (l01Is_any _ _ _).mono ?_
                rintro e w3 ⟨rfl, hb⟩
                obtain ⟨⟨a0, a1⟩, ⟨a2, a3⟩, az⟩ := HC3.out.1.below hb
                have hbF : Below w.heap.size w w3 := below_after hb HC3.out.2.2.2.1
                clear hb
                go_wp2_with fail
                refine bodyPost_ret (v := .tuple #[.agg #[.int .i64 0, .int .i64 0], .int .i64 3]) (by simp (maxDischargeDepth := 8) [results, Tryd.results5, go_sem, *]) rfl ?_
                exact ⟨rfl, Below.setCell (Below.setCell hbF (Nat.le_refl _) _) (Nat.le_refl _) _⟩
              · have q1 := isPt_c1 hq
                have q2 := isPt_c2 hq
                have HNX : Hid (fpS (l.drop (j + 1)) (l0) (l1) (l0 + r0) (l1 + r1) = ((F0, F1), F2, F3)) := by
                  have h1 := HFS.out
                  rw [HI.out, fpS_L rfl] at h1
                  exact h1
                go_at_call 15
                refine (l01Is_any _ _ _).mono ?_
                rintro e w3 ⟨rfl, hb⟩
                have HC4 : Hid (Bk2 w3 w.heap.size 0 0 ∧ Bk2 w3 (w.heap.size + 1) l0 l1 ∧ Bk2 w3 (w.heap.size + 1 + 1) (l0 + r0) (l1 + r1) ∧ Below w.heap.size w w3) := ⟨HC3.out.1.below hb, HC3.out.2.1.below hb, HC3.out.2.2.1.below hb, below_after hb HC3.out.2.2.2.1⟩
                clear hb
                go_wp2_with fail
                go_roundw
                case rel => exact ⟨j + 1, l0, l1, l0 + r0, l1 + r1, rfl, by omega, l00, l01, l10, l11, by omega, by omega, by omega, by omega, HNX.out, HC4.out.1, HC4.out.2.1, HC4.out.2.2.1, HC4.out.2.2.2⟩
                case measure => simp only [intOf]; omega
            · obtain ⟨n1, n2⟩ := byte_ne h76
              have e76 : ((76 : UInt8).toNat : Int) = 76 := rfl
              rw [e76] at n1 n2
              have H76 := Lib.hid h76
              clear e76 h76
              go_wp2_with fail
              obtain ⟨wC, hwC⟩ : ∃ wC, wC = ((w2.setCell ⟨w.heap.size + 1, 0, none⟩ (.int .i64 (l0 + r0))).setCell ⟨w.heap.size + 1, 1, none⟩ (.int .i64 (l1 + r1))).alloc (.cells #[.int .i64 (l0 + r0), .int .i64 (l1 + r1)] 23) := ⟨_, rfl⟩
              rw [← hwC]
              have HC3 : Hid (Bk2 wC w.heap.size 0 0 ∧ Bk2 wC (w.heap.size + 1) (l0 + r0) (l1 + r1) ∧ Bk2 wC (w.heap.size + 1 + 1) r0 r1 ∧ Below w.heap.size w wC ∧ Bk2 wC w2.heap.size (l0 + r0) (l1 + r1)) := by
                obtain ⟨k0, k1, k2, kw⟩ := HB2.out
                have ha : Below ((w2.setCell ⟨w.heap.size + 1, 0, none⟩ (.int .i64 (l0 + r0))).setCell ⟨w.heap.size + 1, 1, none⟩ (.int .i64 (l1 + r1))).heap.size ((w2.setCell ⟨w.heap.size + 1, 0, none⟩ (.int .i64 (l0 + r0))).setCell ⟨w.heap.size + 1, 1, none⟩ (.int .i64 (l1 + r1))) wC := by rw [hwC]; exact (Below.refl _ _).alloc (Nat.le_refl _) _
                refine ⟨((k0.far ⟨w.heap.size + 1, 0, none⟩ (.int .i64 (l0 + r0)) (by show w.heap.size ≠ w.heap.size + 1; omega)).far ⟨w.heap.size + 1, 1, none⟩ (.int .i64 (l1 + r1)) (by show w.heap.size ≠ w.heap.size + 1; omega)).below ha, ((k1.set0 (l0 + r0)).set1 (l1 + r1)).below ha, ((k2.far ⟨w.heap.size + 1, 0, none⟩ (.int .i64 (l0 + r0)) (by show w.heap.size + 1 + 1 ≠ w.heap.size + 1; omega)).far ⟨w.heap.size + 1, 1, none⟩ (.int .i64 (l1 + r1)) (by show w.heap.size + 1 + 1 ≠ w.heap.size + 1; omega)).below ha, ?_, ?_⟩
                · rw [hwC]
                  exact Below.alloc (Below.setCell (Below.setCell kw (by show w.heap.size ≤ w.heap.size + 1; omega) _) (by show w.heap.size ≤ w.heap.size + 1; omega) _) (by simp only [World.size_setCell]; omega) _
                · have hn := bk2_new ((w2.setCell ⟨w.heap.size + 1, 0, none⟩ (.int .i64 (l0 + r0))).setCell ⟨w.heap.size + 1, 1, none⟩ (.int .i64 (l1 + r1))) (l0 + r0) (l1 + r1) 23
                  rw [← hwC] at hn
                  simpa only [World.size_setCell] using hn
              clear hwC a0 a1 a2 a3 az b0 b1 b2 b3 bz c0 c1 c2 c3 cz
              cases hq : isPt (l0 + r0, l1 + r1)
              · have hq2 : isPt (X, Y) = false := isPt_big hq (by omega) (by omega) HLE.out.1 HLE.out.2
                have hc3 : C = 3 := by rw [HC.out, hq2]; rfl
                subst hc3
                have hr0 : RX = 0 := HRX.out.1.trans (onz_no (by decide))
                have hr1 : RY = 0 := HRX.out.2.trans (onz_no (by decide))
                subst hr0
                subst hr1
                clear hq2
                go_at_call 15
                refine (l01Is_any _ _ _).mono ?_
                rintro e w3 ⟨rfl, hb⟩
                obtain ⟨⟨a0, a1⟩, ⟨a2, a3⟩, az⟩ := HC3.out.1.below hb
                have hbF : Below w.heap.size w w3 := below_after hb HC3.out.2.2.2.1
                clear hb
                go_wp2_with fail
                refine bodyPost_ret (v := .tuple #[.agg #[.int .i64 0, .int .i64 0], .int .i64 3]) (by simp (maxDischargeDepth := 8) [results, Tryd.results5, go_sem, *]) rfl ?_
                exact ⟨rfl, Below.setCell (Below.setCell hbF (Nat.le_refl _) _) (Nat.le_refl _) _⟩
              · have q1 := isPt_c1 hq
                have q2 := isPt_c2 hq
                have HNX : Hid (fpS (l.drop (j + 1)) (l0 + r0) (l1 + r1) (r0) (r1) = ((F0, F1), F2, F3)) := by
                  have h1 := HFS.out
                  rw [HI.out, fpS_R H76.out] at h1
                  exact h1
                go_at_call 15
                refine (l01Is_any _ _ _).mono ?_
                rintro e w3 ⟨rfl, hb⟩
                have HC4 : Hid (Bk2 w3 w.heap.size 0 0 ∧ Bk2 w3 (w.heap.size + 1) (l0 + r0) (l1 + r1) ∧ Bk2 w3 (w.heap.size + 1 + 1) r0 r1 ∧ Below w.heap.size w w3) := ⟨HC3.out.1.below hb, HC3.out.2.1.below hb, HC3.out.2.2.1.below hb, below_after hb HC3.out.2.2.2.1⟩
                clear hb
                go_wp2_with fail
                go_roundw
                case rel => exact ⟨j + 1, l0 + r0, l1 + r1, r0, r1, rfl, by omega, by omega, by omega, by omega, by omega, r00, r01, r10, r11, HNX.out, HC4.out.1, HC4.out.2.1, HC4.out.2.2.1, HC4.out.2.2.2⟩
                case measure => simp only [intOf]; omega
          · have hlt : decide ((j : Int) < (l.length : Int)) = false := by simp; omega
            have hdr : l.drop j = [] := List.drop_eq_nil_of_le (by omega)
            have hfs := HFS.out
            rw [hdr] at hfs
            simp only [fpS, Prod.mk.injEq] at hfs
            obtain ⟨⟨rfl, rfl⟩, rfl, rfl⟩ := hfs
            have hX := HFin.out.2.1
            have hY := HFin.out.2.2
            subst hX
            subst hY
            clear hdr
            go_wp2_with fail
            go_at_call 14
            refine (HPl.out _ _ _ _ _ ⟨by omega, by omega⟩ ⟨by omega, by omega⟩ ⟨by omega, by omega⟩ ⟨by omega, by omega⟩).mono ?_
            rintro e w2 ⟨rfl, hb⟩
            have HB2 : Hid (Bk2 w2 w.heap.size 0 0 ∧ Below w.heap.size w w2) := ⟨HB.out.1.below hb, below_after hb HB.out.2.2.2⟩
            clear hb a0 a1 a2 a3 az b0 b1 b2 b3 bz c0 c1 c2 c3 cz
            go_wp2_with fail
            go_at_call 16
            cases hq : isPt (l0 + r0, l1 + r1)
            · have hc3 : C = 3 := by rw [HC.out, hq]; rfl
              subst hc3
              have hr0 : RX = 0 := HRX.out.1.trans (onz_no (by decide))
              have hr1 : RY = 0 := HRX.out.2.trans (onz_no (by decide))
              subst hr0
              subst hr1
              refine (l01Told_no _ _ _ hq).mono ?_
              rintro e w3 ⟨rfl, hb⟩
              obtain ⟨⟨a0, a1⟩, ⟨a2, a3⟩, az⟩ := HB2.out.1.below hb
              have hbF : Below w.heap.size w w3 := below_after hb HB2.out.2
              have hzF := hbF.size
              clear hb
              go_wp2_with fail
              refine bodyPost_ret (v := .tuple #[.agg #[.int .i64 0, .int .i64 0], .int .i64 3]) (by simp (maxDischargeDepth := 8) [results, Tryd.results5, go_sem, *]) rfl ?_
              exact ⟨rfl, by (repeat' (first | (with_reducible exact Below.refl _ _) | (with_reducible refine Below.alloc ?_ ?_ _) | (with_reducible refine Below.setCell ?_ ?_ _) | (with_reducible refine Below.drew ?_) | (with_reducible refine below_drewN ?_ _) | (with_reducible assumption) | (with_reducible refine below_after (by with_reducible assumption) ?_) | go_size))⟩
            · have hc3 : C = 0 := by rw [HC.out, hq]; rfl
              subst hc3
              have hr0 : RX = l0 + r0 := HRX.out.1.trans (onz_yes _)
              have hr1 : RY = l1 + r1 := HRX.out.2.trans (onz_yes _)
              subst hr0
              subst hr1
              refine (l01Told_yes _ _ _ hq).mono ?_
              rintro e w3 ⟨rfl, hb⟩
              obtain ⟨⟨a0, a1⟩, ⟨a2, a3⟩, az⟩ := HB2.out.1.below hb
              have hbF : Below w.heap.size w w3 := below_after hb HB2.out.2
              have hzF := hbF.size
              clear hb
              go_wp2_with fail
              refine bodyPost_ret (v := .tuple #[.agg #[.int .i64 (l0 + r0), .int .i64 (l1 + r1)], .int .i64 0]) (by simp (maxDischargeDepth := 8) [results, Tryd.results5, go_sem, *]) rfl ?_
              exact ⟨rfl, by (repeat' (first | (with_reducible exact Below.refl _ _) | (with_reducible refine Below.alloc ?_ ?_ _) | (with_reducible refine Below.setCell ?_ ?_ _) | (with_reducible refine Below.drew ?_) | (with_reducible refine below_drewN ?_ _) | (with_reducible assumption) | (with_reducible refine below_after (by with_reducible assumption) ?_) | go_size))⟩
end Go.Proofs.YtohnmogejidpdabDoor
