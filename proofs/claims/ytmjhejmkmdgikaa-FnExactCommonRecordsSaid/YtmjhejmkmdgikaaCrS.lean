/-
  Common records of two ratios, in the model (own work).
-/
import Derived.Test.YtmjhejmkmdgikaaCrI
namespace Go.Proofs.Ytmjhejmkmdgikaa
open Go.ChangeShapes Go.WideShapes Go.ChangeAt Go.RowKit
set_option linter.unusedVariables false
set_option maxRecDepth 100000
set_option linter.unusedSimpArgs false
set_option maxRecDepth 100000

set_option maxHeartbeats 4000000 in
theorem spec_CommonRecords_any (p r q n : Int) (w : World) : Calls Try.prog 52 #[.int .i64 p, .int .i64 r, .int .i64 q, .int .i64 n] w (RetIC w (crL p r q n) (crC p r q n)) := by
  unfold crL crC
  cases h1 : rtB p q 1
  · rw [if_neg (by decide), if_neg (by decide)]
    have hs20 : w.heap.size < w.heap.size + 1 + 1 := (by omega); have hs30 : w.heap.size < w.heap.size + 1 + 1 + 1 := (by omega); have hs31 : w.heap.size + 1 < w.heap.size + 1 + 1 + 1 := (by omega)
    go_enter Try.func52, Try.ntmps52
    go_wp2_with (first | (go_at_call 59; refine (l10Ratio_any _ _ _ _).mono ?_; rintro e wn ⟨rfl, rfl⟩) | (go_at_call 62; refine (l01In_any _ _ _ _).mono ?_; rintro e wn ⟨rfl, rfl⟩))
    refine bodyPost_ret (v := .tuple #[.slice none 0 0, .int .i64 2]) (by simp (maxDischargeDepth := 8) [results, Try.results52, go_sem, *]) rfl ?_
    exact retIC_nil (by (repeat' (first | (with_reducible exact Below.refl _ _) | (with_reducible refine Below.alloc ?_ ?_ _) | (with_reducible refine Below.setCell ?_ ?_ _) | (with_reducible refine Below.drew ?_) | (with_reducible refine below_drewN ?_ _) | (with_reducible assumption) | (with_reducible refine below_after (by with_reducible assumption) ?_) | go_size)))
  · rw [if_pos rfl, if_pos rfl]
    cases h2 : rtB r q 1
    · rw [if_neg (by decide), if_neg (by decide)]
      have hs20 : w.heap.size < w.heap.size + 1 + 1 := (by omega); have hs30 : w.heap.size < w.heap.size + 1 + 1 + 1 := (by omega); have hs31 : w.heap.size + 1 < w.heap.size + 1 + 1 + 1 := (by omega)
      go_enter Try.func52, Try.ntmps52
      go_wp2_with (first | (go_at_call 59; refine (l10Ratio_any _ _ _ _).mono ?_; rintro e wn ⟨rfl, rfl⟩) | (go_at_call 62; refine (l01In_any _ _ _ _).mono ?_; rintro e wn ⟨rfl, rfl⟩))
      refine bodyPost_ret (v := .tuple #[.slice none 0 0, .int .i64 2]) (by simp (maxDischargeDepth := 8) [results, Try.results52, go_sem, *]) rfl ?_
      exact retIC_nil (by (repeat' (first | (with_reducible exact Below.refl _ _) | (with_reducible refine Below.alloc ?_ ?_ _) | (with_reducible refine Below.setCell ?_ ?_ _) | (with_reducible refine Below.drew ?_) | (with_reducible refine below_drewN ?_ _) | (with_reducible assumption) | (with_reducible refine below_after (by with_reducible assumption) ?_) | go_size)))
    · rw [if_pos rfl, if_pos rfl]
      cases h3 : inB n 1 100000
      · rw [if_neg (by decide), if_neg (by decide)]
        have hs20 : w.heap.size < w.heap.size + 1 + 1 := (by omega); have hs30 : w.heap.size < w.heap.size + 1 + 1 + 1 := (by omega); have hs31 : w.heap.size + 1 < w.heap.size + 1 + 1 + 1 := (by omega)
        go_enter Try.func52, Try.ntmps52
        go_wp2_with (first | (go_at_call 59; refine (l10Ratio_any _ _ _ _).mono ?_; rintro e wn ⟨rfl, rfl⟩) | (go_at_call 62; refine (l01In_any _ _ _ _).mono ?_; rintro e wn ⟨rfl, rfl⟩))
        refine bodyPost_ret (v := .tuple #[.slice none 0 0, .int .i64 2]) (by simp (maxDischargeDepth := 8) [results, Try.results52, go_sem, *]) rfl ?_
        exact retIC_nil (by (repeat' (first | (with_reducible exact Below.refl _ _) | (with_reducible refine Below.alloc ?_ ?_ _) | (with_reducible refine Below.setCell ?_ ?_ _) | (with_reducible refine Below.drew ?_) | (with_reducible refine below_drewN ?_ _) | (with_reducible assumption) | (with_reducible refine below_after (by with_reducible assumption) ?_) | go_size)))
      · rw [if_pos rfl, if_pos rfl]
        obtain ⟨n1, n2⟩ := inB_iff.1 h3
        have HS1 := Lib.hid (fun j => rcS_len (bt := btC p r q) j)
        have hq := rtB_iff.1 h1
        have HP := Lib.hid h1
        have HR := Lib.hid h2
        have HN := Lib.hid h3
        go_enter Try.func52, Try.ntmps52
        go_wp2_with (first | (go_at_call 59; refine (l10Ratio_any _ _ _ _).mono ?_; rintro e wn ⟨rfl, rfl⟩) | (go_at_call 62; refine (l01In_any _ _ _ _).mono ?_; rintro e wn ⟨rfl, rfl⟩))
        clear h1 h2 h3
        go_loopw [10, 11, 12] (fun ov ev kv wr => ∃ (j : Nat) (L : List Int) (e : Int) (va : Option Addr) (vc : Nat), ov = .slice va L.length vc ∧ ev = .int .i64 e ∧ kv = .int .i64 ((j : Int) + 1) ∧ (j : Int) ≤ n ∧ OwnI w.heap.size wr (.slice va L.length vc) L ∧ Below w.heap.size w wr ∧ ((j = 0 ∧ L = [] ∧ e = 0) ∨ ∃ u, 1 ≤ j ∧ rcS (btC p r q) (j - 1) = (L, u) ∧ e = crM p r q u)) (fun _ _ kv _ => (n + 1 - intOf kv).toNat)
        case atStart => exact ⟨0, [], 0, some ⟨w.heap.size, 0, none⟩, 0, rfl, rfl, by go_num, by omega, World.ownsRow_lit w #[] 0 (Nat.le_refl _) (by unfold maxLen; omega) rfl, (Below.refl _ _).alloc (Nat.le_refl _) _, Or.inl ⟨rfl, rfl, rfl⟩⟩
        case round =>
          obtain ⟨j, L, e, va, vc, rfl, rfl, rfl, hjn, hO, hbel, hst⟩ := hrel
          have HO := Lib.hid hO
          have HB := Lib.hid hbel
          clear hO hbel
          by_cases hlt : (j : Int) + 1 ≤ n
          · have HNP : Hid (∀ w, Calls Try.prog 89 #[.int .i64 (((j : Int) + 1) * p), .int .i64 q] w fun e w' => e = .returned (.tuple #[.int .i64 (nrP (((j : Int) + 1) * p) q), .int .i64 (nrM (((j : Int) + 1) * p) q)]) ∧ Below w.heap.size w w') := fun w => l10Near_any p q ((j : Int) + 1) w HP.out (by omega) (by omega)
            have HNR : Hid (∀ w, Calls Try.prog 89 #[.int .i64 (((j : Int) + 1) * r), .int .i64 q] w fun e w' => e = .returned (.tuple #[.int .i64 (nrP (((j : Int) + 1) * r) q), .int .i64 (nrM (((j : Int) + 1) * r) q)]) ∧ Below w.heap.size w w') := fun w => l10Near_any r q ((j : Int) + 1) w HR.out (by omega) (by omega)
            obtain ⟨kb1, kb2⟩ := kp_bd HP.out (by omega : -1000000 ≤ (j : Int) + 1) (by omega)
            obtain ⟨kb3, kb4⟩ := kp_bd HR.out (by omega : -1000000 ≤ (j : Int) + 1) (by omega)
            have HCM : Hid (crM p r q ((j : Int) + 1) = max (nrM (((j : Int) + 1) * p) q) (nrM (((j : Int) + 1) * r) q)) := rfl
            generalize nrP (((j : Int) + 1) * p) q = X at *
            generalize nrP (((j : Int) + 1) * r) q = X2 at *
            generalize nrM (((j : Int) + 1) * p) q = Y at *
            generalize nrM (((j : Int) + 1) * r) q = Y2 at *
            obtain ⟨E, hE⟩ : ∃ M, max Y Y2 = M := ⟨_, rfl⟩
            have hmx := fun (W : World) (ts : Array TypeId) (t : TypeId) => run_max2 Try.prog W ts t Y Y2 E hE
            rw [hE] at HCM
            go_wp2_with fail
            go_at_call 89
            refine (HNP.out _).mono ?_
            rintro e1 w2 ⟨rfl, hb2⟩
            have HO2 := Lib.hid (HO.out.below hb2)
            have HB2 := Lib.hid (below_after hb2 HB.out)
            clear hb2 HNP HO HB
            go_wp2_with fail
            go_at_call 89
            refine (HNR.out _).mono ?_
            rintro e1 w3 ⟨rfl, hb3⟩
            have HO3 := Lib.hid (HO2.out.below hb3)
            have HB3 := Lib.hid (below_after hb3 HB2.out)
            have hs3 := HB3.out.size
            have HBX := Lib.hid (HB3.out.alloc hs3 (.cells #[.int .i64 ((j : Int) + 1)] 2))
            clear hb3 HNR HO2 HB2
            rcases hst with ⟨rfl, rfl, rfl⟩ | ⟨u, hj1, hrc, he⟩
            · have HNX : Hid (rcS (btC p r q) 0 = ([1], 1)) := rfl
              have hL0 : ([] : List Int).length = 0 := rfl
              go_wp2_with (at_builtin; refine wpList_app_I w (g := w3.heap.size) (y := ((0 : Nat) : Int) + 1) rfl _ _ rfl (World.ownsRow.alloc HO3.out _) (by go_cell) HBX.out rfl rfl (by simp) ?_; intro v' w4 hO4 hB4; have hO4 := Lib.hid hO4; have hB4 := Lib.hid hB4; obtain ⟨va', vc', rfl, _⟩ := own_view hO4.out)
              go_roundw
              case rel => exact ⟨1, [1], E, va', vc', by first | rfl | simp, by first | rfl | rw [hE], by first | rfl | go_num, by omega, by first | exact hO4.out | simpa using hO4.out, hB4.out, Or.inr ⟨1, by omega, HNX.out, by first | exact HCM.out.symm | simpa using HCM.out.symm⟩⟩
              case measure => simp only [intOf]; omega
            · have hl1 := HS1.out (j - 1)
              rw [hrc] at hl1
              dsimp only at hl1
              obtain ⟨l1, l2⟩ := hl1
              have hne : ((L.length : Int) == 0) = false := by simp; intro hh; rw [hh] at l1; simp at l1
              have hcj : (((j - 1 : Nat) : Int) + 2) = (j : Int) + 1 := by omega
              have hjj : j - 1 + 1 = j := by omega
              have hbt : btC p r q (((j - 1 : Nat) : Int) + 2) (rcS (btC p r q) (j - 1)).2 = decide (E < e) := by rw [hcj, hrc, crM_bt, HCM.out, ← he]
              have HBB := Lib.hid hbt
              have HRC := Lib.hid hrc
              have HEU := Lib.hid he
              clear hbt hrc he
              by_cases hbb : E < e
              · have HNX : Hid (rcS (btC p r q) j = (L ++ [(j : Int) + 1], (j : Int) + 1)) := by
                  have := rcS_yes (bt := btC p r q) (n := j - 1) (by rw [HBB.out]; simpa using hbb)
                  rw [hjj, hcj, HRC.out] at this
                  exact this
                go_wp2_with (at_builtin; refine wpList_app_I w (g := w3.heap.size) (y := (j : Int) + 1) rfl _ _ rfl (World.ownsRow.alloc HO3.out _) (by go_cell) HBX.out rfl rfl (by omega) ?_; intro v' w4 hO4 hB4; have hO4 := Lib.hid hO4; have hB4 := Lib.hid hB4; obtain ⟨va', vc', rfl, _⟩ := own_view hO4.out)
                go_roundw
                case rel => exact ⟨j + 1, L ++ [(j : Int) + 1], E, va', vc', by first | rfl | simp, by first | rfl | rw [hE], by go_num, by omega, hO4.out, hB4.out, Or.inr ⟨_, by omega, HNX.out, HCM.out.symm⟩⟩
                case measure => simp only [intOf]; omega
              · have HNX : Hid (rcS (btC p r q) j = (L, u)) := by
                  have := rcS_no (bt := btC p r q) (n := j - 1) (by rw [HBB.out]; simpa using hbb)
                  rw [hjj, HRC.out] at this
                  exact this
                go_wp2_with fail
                go_roundw
                case rel => exact ⟨j + 1, L, e, va, vc, rfl, rfl, by go_num, by omega, HO3.out, HB3.out, Or.inr ⟨u, by omega, HNX.out, HEU.out⟩⟩
                case measure => simp only [intOf]; omega
          · have hje : j = n.toNat := by omega
            have hj1 : 1 ≤ j := by omega
            rcases hst with ⟨rfl, _⟩ | ⟨u, _, hrc, he⟩
            · omega
            · have hz : rcS (btC p r q) (n.toNat - 1) = (L, u) := by rw [← hje]; exact hrc
              have HZ := Lib.hid hz
              clear hz hje hrc he
              go_wp2_with fail
              go_ret2
              exact ⟨_, rfl, by rw [HZ.out]; exact HO.out, HB.out⟩
end Go.Proofs.Ytmjhejmkmdgikaa
