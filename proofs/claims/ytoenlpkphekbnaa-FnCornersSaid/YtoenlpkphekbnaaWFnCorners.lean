/-
  The walk of laws.FnCorners: for all arguments it returns true and leaves memory as it was. No conditions (own work).
-/
import Derived.Test.YtoenlpkphekbnaaBig
import Derived.Test.YtoenlpkphekbnaaCrM
import Derived.Test.YtoenlpkphekbnaaCrK
import Derived.Test.YtoenlpkphekbnaaCor5
import Derived.Test.YtoenlpkphekbnaaAre
import Derived.Deep.DeepCutAuto
namespace Go.Proofs.Ytoenlpkphekbnaa
open Go.ChangeShapes Go.WideShapes Go.ChangeAt Go.RowKit
set_option linter.unusedVariables false
set_option maxRecDepth 100000
set_option linter.unusedSimpArgs false
set_option maxRecDepth 100000

set_option maxHeartbeats 16000000 in
theorem walkFnCorners (a : Option Addr) (n cap : Nat) (zs : List Int) (w : World) (hR : IsRow .u8 w a n cap zs) :
    Calls Try.prog 4 #[.slice a n cap] w fun e w' => e = .returned (.bool true) ∧ Below w.heap.size w w' := by
  have heq := eq_cr
  have hn := row_len hR
  have hby := byt_of_row hR
  have CB := Lib.hid (fun w => big_any a n cap w hn)
  by_cases hbig : (4096 : Int) < (n : Int)
  · clear hR hby
    have d1 : decide ((4096 : Int) < (n : Int)) = true := by simpa using hbig
    rw [d1] at CB
    go_enter Try.func4, Try.ntmps4
    go_wp2_with (first | (go_at_call 6; refine (CB.out _).mono ?_; rintro e wn ⟨rfl, hb⟩; first | (have h2 := after_call2 hb hcl hfr hlt (by ((repeat' (first | (with_reducible exact Below.refl _ _) | (with_reducible refine Below.alloc ?_ ?_ _) | (with_reducible refine Below.setCell ?_ ?_ _) | (with_reducible refine Below.drew ?_) | (with_reducible refine below_drewN ?_ _) | (with_reducible assumption) | (with_reducible refine below_after (by with_reducible assumption) ?_) | go_size)); done)); obtain ⟨hclx, hfrx, hltx, hsz⟩ := after_call hb; (try simp only [World.size_alloc, World.size_setCell, World.size_drew] at hclx hfrx hltx hsz); (try (have hszl := Nat.lt_of_succ_le hsz)); obtain ⟨hcl, hfr, hlt⟩ := h2) | (obtain ⟨hcl, hfr, hlt, hsz⟩ := after_call hb; (try simp only [World.size_alloc, World.size_setCell, World.size_drew] at hcl hfr hlt hsz))))
    go_ret
    exact ⟨rfl, by (repeat' (first | (with_reducible exact Below.refl _ _) | (with_reducible refine Below.alloc ?_ ?_ _) | (with_reducible refine Below.setCell ?_ ?_ _) | (with_reducible refine Below.drew ?_) | (with_reducible refine below_drewN ?_ _) | (with_reducible assumption) | (with_reducible refine below_after (by with_reducible assumption) ?_) | go_size))⟩
  · have d1 : decide ((4096 : Int) < (n : Int)) = false := by simpa using hbig
    rw [d1] at CB
    have CD1 := Lib.hid (fun W (hW : Below w.heap.size w W) => DrawMoveCorner_any a n cap W hn (hby.over hW))
    have CD2 := Lib.hid (fun W (hW : Below w.heap.size w W) => DrawCosineOf_any a n cap W hn (hby.over hW))
    have CD3 := Lib.hid (fun W (hW : Below w.heap.size w W) => DrawAreEqualCorners_any a n cap W hn (hby.over hW))
    have HB : Hid (Below w.heap.size w w) := Below.refl _ _
    clear hR hby d1 hbig
    go_enter Try.func4, Try.ntmps4
    go_wp2_with fail
    go_at_call 6
    refine (CB.out _).mono ?_
    rintro e w1 ⟨rfl, hb⟩
    have HB := Lib.hid (below_after hb HB.out)
    clear hb
    go_wp2_with fail
    go_at_call 37
    refine (CD1.out _ HB.out).mono ?_
    rintro e w2 ⟨p, q, r, t, x0, y0, x1, y1, rfl, hb⟩
    have HB := Lib.hid (below_after hb HB.out)
    clear hb
    go_upto_region 4 with fail
    obtain ⟨w3, hw3⟩ : ∃ wx, wx = (w2.alloc (.cells #[.int .i64 p, .int .i64 q, .int .i64 r, .int .i64 t] 26)).alloc (.cells #[.int .i64 x0, .int .i64 y0, .int .i64 x1, .int .i64 y1] 52) := ⟨_, rfl⟩
    rw [← hw3]
    obtain ⟨GM, hGM⟩ : ∃ g, w2.heap.size = g := ⟨_, rfl⟩
    have HM : Hid (Bk4 w3 GM p q r t) := by
      have h := (bk4_new w2 p q r t 26).below (W' := w3) (by rw [hw3]; (repeat' (first | (with_reducible exact Below.refl _ _) | (with_reducible refine Below.alloc ?_ ?_ _) | (with_reducible refine Below.setCell ?_ ?_ _) | (with_reducible refine Below.drew ?_) | (with_reducible refine below_drewN ?_ _) | (with_reducible assumption) | (with_reducible refine below_after (by with_reducible assumption) ?_) | go_size)))
      (try simp only [World.size_alloc] at h)
      rw [hGM] at h
      exact h
    have le_M : w.heap.size ≤ GM := by have := HB.out.size; omega
    obtain ⟨GA, hGA⟩ : ∃ g, w2.heap.size + 1 = g := ⟨_, rfl⟩
    have HA : Hid (Bk4 w3 GA x0 y0 x1 y1) := by
      have h := (bk4_new (w2.alloc (.cells #[.int .i64 p, .int .i64 q, .int .i64 r, .int .i64 t] 26)) x0 y0 x1 y1 52).below (W' := w3) (by rw [hw3]; (repeat' (first | (with_reducible exact Below.refl _ _) | (with_reducible refine Below.alloc ?_ ?_ _) | (with_reducible refine Below.setCell ?_ ?_ _) | (with_reducible refine Below.drew ?_) | (with_reducible refine below_drewN ?_ _) | (with_reducible assumption) | (with_reducible refine below_after (by with_reducible assumption) ?_) | go_size)))
      (try simp only [World.size_alloc] at h)
      rw [hGA] at h
      exact h
    have le_A : w.heap.size ≤ GA := by have := HB.out.size; omega
    have ne_A_M : GA ≠ GM := by omega
    have ne_M_A : GM ≠ GA := Ne.symm ne_A_M
    have hbn : Below w2.heap.size w2 w3 := by rw [hw3]; (repeat' (first | (with_reducible exact Below.refl _ _) | (with_reducible refine Below.alloc ?_ ?_ _) | (with_reducible refine Below.setCell ?_ ?_ _) | (with_reducible refine Below.drew ?_) | (with_reducible refine below_drewN ?_ _) | (with_reducible assumption) | (with_reducible refine below_after (by with_reducible assumption) ?_) | go_size))
    have HB := Lib.hid (below_after hbn HB.out)
    clear hbn
    rw [hGM] at hGA
    simp only [hGM]
    simp only [hGA]
    clear hw3 hGM hGA
    have IM := Lib.hid (fun w => impl_MoveCorner_any p q r t x0 y0 x1 y1 w)
    have SM := Lib.hid (fun w => spec_MoveCorner_any p q r t x0 y0 x1 y1 w)
    obtain ⟨m0, Em0⟩ : ∃ x, oni (mvC p q r t x0 y0 x1 y1) (img p q r t x0 y0).1 = x := ⟨_, rfl⟩
    obtain ⟨m1, Em1⟩ : ∃ x, oni (mvC p q r t x0 y0 x1 y1) (img p q r t x0 y0).2 = x := ⟨_, rfl⟩
    obtain ⟨m2, Em2⟩ : ∃ x, oni (mvC p q r t x0 y0 x1 y1) (img p q r t x1 y1).1 = x := ⟨_, rfl⟩
    obtain ⟨m3, Em3⟩ : ∃ x, oni (mvC p q r t x0 y0 x1 y1) (img p q r t x1 y1).2 = x := ⟨_, rfl⟩
    obtain ⟨c1, Ec1⟩ : ∃ x, mvC p q r t x0 y0 x1 y1 = x := ⟨_, rfl⟩
    rw [Em0, Em1, Em2, Em3, Ec1] at IM SM
    have HEm0 := Lib.hid Em0
    have HEm1 := Lib.hid Em1
    have HEm2 := Lib.hid Em2
    have HEm3 := Lib.hid Em3
    have HEc1 := Lib.hid Ec1
    clear Em0 Em1 Em2 Em3 Ec1
    obtain ⟨⟨qM0, qM1, qM2, qM3⟩, ⟨fM0, fM1, fM2, fM3⟩, zM⟩ := HM.out
    obtain ⟨⟨qA0, qA1, qA2, qA3⟩, ⟨fA0, fA1, fA2, fA3⟩, zA⟩ := HA.out
    go_wp2_with fail
    go_at_call 38
    refine (IM.out _).mono ?_
    rintro e w4 ⟨rfl, hb⟩
    clear qM0 fM0 qM1 fM1 qM2 fM2 qM3 fM3 zM qA0 fA0 qA1 fA1 qA2 fA2 qA3 fA3 zA
    have HM := Lib.hid (HM.out.below hb)
    have HA := Lib.hid (HA.out.below hb)
    have HB := Lib.hid (below_after hb HB.out)
    clear hb
    obtain ⟨⟨qM0, qM1, qM2, qM3⟩, ⟨fM0, fM1, fM2, fM3⟩, zM⟩ := HM.out
    obtain ⟨⟨qA0, qA1, qA2, qA3⟩, ⟨fA0, fA1, fA2, fA3⟩, zA⟩ := HA.out
    go_upto_region 5 with fail
    obtain ⟨GV, hGV⟩ : ∃ g, w4.heap.size = g := ⟨_, rfl⟩
    obtain ⟨w5, hw5⟩ : ∃ wx, wx = w4.alloc (.cells #[.int .i64 m0, .int .i64 m1, .int .i64 m2, .int .i64 m3] 52) := ⟨_, rfl⟩
    rw [← hw5, hGV]
    have HV : Hid (Bk4 w5 GV m0 m1 m2 m3) := by rw [hw5, ← hGV]; exact bk4_new w4 m0 m1 m2 m3 _
    have le_V : w.heap.size ≤ GV := by rw [← hGV]; exact HB.out.size
    have ne_V_M : GV ≠ GM := by have := HM.out.2.2; omega
    have ne_M_V : GM ≠ GV := Ne.symm ne_V_M
    have ne_V_A : GV ≠ GA := by have := HA.out.2.2; omega
    have ne_A_V : GA ≠ GV := Ne.symm ne_V_A
    clear qM0 fM0 qM1 fM1 qM2 fM2 qM3 fM3 zM qA0 fA0 qA1 fA1 qA2 fA2 qA3 fA3 zA
    have HM := Lib.hid (HM.out.below ((Below.refl _ _).alloc (Nat.le_refl _) (.cells #[.int .i64 m0, .int .i64 m1, .int .i64 m2, .int .i64 m3] 52)))
    have HA := Lib.hid (HA.out.below ((Below.refl _ _).alloc (Nat.le_refl _) (.cells #[.int .i64 m0, .int .i64 m1, .int .i64 m2, .int .i64 m3] 52)))
    have HB := Lib.hid (Below.alloc HB.out HB.out.size (.cells #[.int .i64 m0, .int .i64 m1, .int .i64 m2, .int .i64 m3] 52))
    rw [← hw5] at HM HA HB
    clear hw5 hGV
    obtain ⟨⟨qM0, qM1, qM2, qM3⟩, ⟨fM0, fM1, fM2, fM3⟩, zM⟩ := HM.out
    obtain ⟨⟨qA0, qA1, qA2, qA3⟩, ⟨fA0, fA1, fA2, fA3⟩, zA⟩ := HA.out
    obtain ⟨⟨qV0, qV1, qV2, qV3⟩, ⟨fV0, fV1, fV2, fV3⟩, zV⟩ := HV.out
    go_wp2_with fail
    go_at_call 39
    refine (SM.out _).mono ?_
    rintro e w6 ⟨rfl, hb⟩
    clear qM0 fM0 qM1 fM1 qM2 fM2 qM3 fM3 zM qA0 fA0 qA1 fA1 qA2 fA2 qA3 fA3 zA qV0 fV0 qV1 fV1 qV2 fV2 qV3 fV3 zV
    have HM := Lib.hid (HM.out.below hb)
    have HA := Lib.hid (HA.out.below hb)
    have HV := Lib.hid (HV.out.below hb)
    have HB := Lib.hid (below_after hb HB.out)
    clear hb
    obtain ⟨⟨qM0, qM1, qM2, qM3⟩, ⟨fM0, fM1, fM2, fM3⟩, zM⟩ := HM.out
    obtain ⟨⟨qA0, qA1, qA2, qA3⟩, ⟨fA0, fA1, fA2, fA3⟩, zA⟩ := HA.out
    obtain ⟨⟨qV0, qV1, qV2, qV3⟩, ⟨fV0, fV1, fV2, fV3⟩, zV⟩ := HV.out
    go_upto_region 6 with fail
    obtain ⟨GN, hGN⟩ : ∃ g, w6.heap.size = g := ⟨_, rfl⟩
    obtain ⟨w7, hw7⟩ : ∃ wx, wx = w6.alloc (.cells #[.int .i64 m0, .int .i64 m1, .int .i64 m2, .int .i64 m3] 52) := ⟨_, rfl⟩
    rw [← hw7, hGN]
    have HN : Hid (Bk4 w7 GN m0 m1 m2 m3) := by rw [hw7, ← hGN]; exact bk4_new w6 m0 m1 m2 m3 _
    have le_N : w.heap.size ≤ GN := by rw [← hGN]; exact HB.out.size
    have ne_N_M : GN ≠ GM := by have := HM.out.2.2; omega
    have ne_M_N : GM ≠ GN := Ne.symm ne_N_M
    have ne_N_A : GN ≠ GA := by have := HA.out.2.2; omega
    have ne_A_N : GA ≠ GN := Ne.symm ne_N_A
    have ne_N_V : GN ≠ GV := by have := HV.out.2.2; omega
    have ne_V_N : GV ≠ GN := Ne.symm ne_N_V
    clear qM0 fM0 qM1 fM1 qM2 fM2 qM3 fM3 zM qA0 fA0 qA1 fA1 qA2 fA2 qA3 fA3 zA qV0 fV0 qV1 fV1 qV2 fV2 qV3 fV3 zV
    have HM := Lib.hid (HM.out.below ((Below.refl _ _).alloc (Nat.le_refl _) (.cells #[.int .i64 m0, .int .i64 m1, .int .i64 m2, .int .i64 m3] 52)))
    have HA := Lib.hid (HA.out.below ((Below.refl _ _).alloc (Nat.le_refl _) (.cells #[.int .i64 m0, .int .i64 m1, .int .i64 m2, .int .i64 m3] 52)))
    have HV := Lib.hid (HV.out.below ((Below.refl _ _).alloc (Nat.le_refl _) (.cells #[.int .i64 m0, .int .i64 m1, .int .i64 m2, .int .i64 m3] 52)))
    have HB := Lib.hid (Below.alloc HB.out HB.out.size (.cells #[.int .i64 m0, .int .i64 m1, .int .i64 m2, .int .i64 m3] 52))
    rw [← hw7] at HM HA HV HB
    clear hw7 hGN
    clear HM
    clear IM SM
    have IC := Lib.hid (fun w => impl_IsCorner_any x0 y0 x1 y1 w)
    have SC := Lib.hid (fun w => spec_IsCorner_any x0 y0 x1 y1 w)
    obtain ⟨bc, Ebc⟩ : ∃ x, isCr x0 y0 x1 y1 = x := ⟨_, rfl⟩
    rw [Ebc] at IC SC
    clear Ebc
    have HXX : Hid (∀ W, Below w7.heap.size w7 W → Bk4 W GA x0 y0 x1 y1 ∧ Bk4 W GV m0 m1 m2 m3 ∧ Bk4 W GN m0 m1 m2 m3) := fun W hW => ⟨HA.out.below hW, HV.out.below hW, HN.out.below hW⟩
    go_wp2_with fail
    refine wp_region_held_drew (S := fun W => Below w7.heap.size w7 W) (by kernel_rfl) ?_ (fun hHeld => ?_); focus ((try dsimp only); exact (Below.refl _ _).drew)
    have HA := Lib.hid (HA.out.below (Below.drew (Below.refl _ _)))
    have HV := Lib.hid (HV.out.below (Below.drew (Below.refl _ _)))
    have HN := Lib.hid (HN.out.below (Below.drew (Below.refl _ _)))
    have hHeld : Below w7.heap.size w7 _ := hHeld
    obtain ⟨wD7, hwD7⟩ : ∃ wD, w7.drew = wD := ⟨_, rfl⟩
    rw [hwD7] at hHeld HA HV HN ⊢
    clear hwD7
    (refine wpAnyH_take (i := 0) (v := ?_) rfl (by kernel_rfl) (by kernel_rfl) (by kernel_rfl) (fun _ _ _ h => h) (Or.inl ⟨rfl, ?_⟩) (by assumption) ?_; rotate_left; focus (intro W hSw; (try dsimp only at hSw); have hxx := HXX.out _ hSw; obtain ⟨hxA, hxV, hxN⟩ := hxx; obtain ⟨⟨iA0, iA1, iA2, iA3⟩, _, _⟩ := hxA; obtain ⟨⟨iV0, iV1, iV2, iV3⟩, _, _⟩ := hxV; obtain ⟨⟨iN0, iN1, iN2, iN3⟩, _, _⟩ := hxN; go_simp; try (with_reducible rfl))); (try simp only [Act.put, List.getElem_toArray, List.getElem_cons_succ, List.getElem_cons_zero, List.setIfInBounds_toArray, List.set_cons_zero, List.set_cons_succ])
    (refine wpAnyH_take (i := 1) (v := ?_) rfl (by kernel_rfl) (by kernel_rfl) (by kernel_rfl) (fun _ _ _ h => h) (Or.inl ⟨rfl, ?_⟩) (by assumption) ?_; rotate_left; focus (intro W hSw; (try dsimp only at hSw); have hxx := HXX.out _ hSw; obtain ⟨hxA, hxV, hxN⟩ := hxx; obtain ⟨⟨iA0, iA1, iA2, iA3⟩, _, _⟩ := hxA; obtain ⟨⟨iV0, iV1, iV2, iV3⟩, _, _⟩ := hxV; obtain ⟨⟨iN0, iN1, iN2, iN3⟩, _, _⟩ := hxN; go_simp; try (with_reducible rfl))); (try simp only [Act.put, List.getElem_toArray, List.getElem_cons_succ, List.getElem_cons_zero, List.setIfInBounds_toArray, List.set_cons_zero, List.set_cons_succ])
    (refine wpAnyH_take (i := 2) (v := ?_) rfl (by kernel_rfl) (by kernel_rfl) (by kernel_rfl) (fun _ _ _ h => h) (Or.inl ⟨rfl, ?_⟩) (by assumption) ?_; rotate_left; focus (intro W hSw; (try dsimp only at hSw); have hxx := HXX.out _ hSw; obtain ⟨hxA, hxV, hxN⟩ := hxx; obtain ⟨⟨iA0, iA1, iA2, iA3⟩, _, _⟩ := hxA; obtain ⟨⟨iV0, iV1, iV2, iV3⟩, _, _⟩ := hxV; obtain ⟨⟨iN0, iN1, iN2, iN3⟩, _, _⟩ := hxN; go_simp; try (with_reducible rfl))); (try simp only [Act.put, List.getElem_toArray, List.getElem_cons_succ, List.getElem_cons_zero, List.setIfInBounds_toArray, List.set_cons_zero, List.set_cons_succ])
    (refine wpAnyH_take (i := 3) (v := ?_) rfl (by kernel_rfl) (by kernel_rfl) (by kernel_rfl) (fun _ _ _ h => h) (Or.inl ⟨rfl, ?_⟩) (by assumption) ?_; rotate_left; focus (intro W hSw; (try dsimp only at hSw); have hxx := HXX.out _ hSw; obtain ⟨hxA, hxV, hxN⟩ := hxx; obtain ⟨⟨iA0, iA1, iA2, iA3⟩, _, _⟩ := hxA; obtain ⟨⟨iV0, iV1, iV2, iV3⟩, _, _⟩ := hxV; obtain ⟨⟨iN0, iN1, iN2, iN3⟩, _, _⟩ := hxN; go_simp; try (with_reducible rfl))); (try simp only [Act.put, List.getElem_toArray, List.getElem_cons_succ, List.getElem_cons_zero, List.setIfInBounds_toArray, List.set_cons_zero, List.set_cons_succ])
    (refine wpAnyH_take (i := 4) (v := ?_) rfl (by kernel_rfl) (by kernel_rfl) (by kernel_rfl) (fun _ _ _ h => h) (Or.inl ⟨rfl, ?_⟩) (by assumption) ?_; rotate_left; focus (intro W hSw; (try dsimp only at hSw); have hxx := HXX.out _ hSw; obtain ⟨hxA, hxV, hxN⟩ := hxx; obtain ⟨⟨iA0, iA1, iA2, iA3⟩, _, _⟩ := hxA; obtain ⟨⟨iV0, iV1, iV2, iV3⟩, _, _⟩ := hxV; obtain ⟨⟨iN0, iN1, iN2, iN3⟩, _, _⟩ := hxN; go_simp; try (with_reducible rfl))); (try simp only [Act.put, List.getElem_toArray, List.getElem_cons_succ, List.getElem_cons_zero, List.setIfInBounds_toArray, List.set_cons_zero, List.set_cons_succ])
    (refine wpAnyH_take (i := 5) (v := ?_) rfl (by kernel_rfl) (by kernel_rfl) (by kernel_rfl) (fun _ _ _ h => h) (Or.inl ⟨rfl, ?_⟩) (by assumption) ?_; rotate_left; focus (intro W hSw; (try dsimp only at hSw); have hxx := HXX.out _ hSw; obtain ⟨hxA, hxV, hxN⟩ := hxx; obtain ⟨⟨iA0, iA1, iA2, iA3⟩, _, _⟩ := hxA; obtain ⟨⟨iV0, iV1, iV2, iV3⟩, _, _⟩ := hxV; obtain ⟨⟨iN0, iN1, iN2, iN3⟩, _, _⟩ := hxN; go_simp; try (with_reducible rfl))); (try simp only [Act.put, List.getElem_toArray, List.getElem_cons_succ, List.getElem_cons_zero, List.setIfInBounds_toArray, List.set_cons_zero, List.set_cons_succ])
    (refine wpAnyH_take (i := 6) (v := ?_) rfl (by kernel_rfl) (by kernel_rfl) (by kernel_rfl) (fun _ _ _ h => h) (Or.inl ⟨rfl, ?_⟩) (by assumption) ?_; rotate_left; focus (intro W hSw; (try dsimp only at hSw); have hxx := HXX.out _ hSw; obtain ⟨hxA, hxV, hxN⟩ := hxx; obtain ⟨⟨iA0, iA1, iA2, iA3⟩, _, _⟩ := hxA; obtain ⟨⟨iV0, iV1, iV2, iV3⟩, _, _⟩ := hxV; obtain ⟨⟨iN0, iN1, iN2, iN3⟩, _, _⟩ := hxN; go_simp; try (with_reducible rfl))); (try simp only [Act.put, List.getElem_toArray, List.getElem_cons_succ, List.getElem_cons_zero, List.setIfInBounds_toArray, List.set_cons_zero, List.set_cons_succ])
    (refine wpAnyH_take (i := 7) (v := ?_) rfl (by kernel_rfl) (by kernel_rfl) (by kernel_rfl) (fun _ _ _ h => h) (Or.inl ⟨rfl, ?_⟩) (by assumption) ?_; rotate_left; focus (intro W hSw; (try dsimp only at hSw); have hxx := HXX.out _ hSw; obtain ⟨hxA, hxV, hxN⟩ := hxx; obtain ⟨⟨iA0, iA1, iA2, iA3⟩, _, _⟩ := hxA; obtain ⟨⟨iV0, iV1, iV2, iV3⟩, _, _⟩ := hxV; obtain ⟨⟨iN0, iN1, iN2, iN3⟩, _, _⟩ := hxN; go_simp; try (with_reducible rfl))); (try simp only [Act.put, List.getElem_toArray, List.getElem_cons_succ, List.getElem_cons_zero, List.setIfInBounds_toArray, List.set_cons_zero, List.set_cons_succ])
    (refine wpAnyH_take (i := 8) (v := ?_) rfl (by kernel_rfl) (by kernel_rfl) (by kernel_rfl) (fun _ _ _ h => h) (Or.inl ⟨rfl, ?_⟩) (by assumption) ?_; rotate_left; focus (intro W hSw; (try dsimp only at hSw); have hxx := HXX.out _ hSw; obtain ⟨hxA, hxV, hxN⟩ := hxx; obtain ⟨⟨iA0, iA1, iA2, iA3⟩, _, _⟩ := hxA; obtain ⟨⟨iV0, iV1, iV2, iV3⟩, _, _⟩ := hxV; obtain ⟨⟨iN0, iN1, iN2, iN3⟩, _, _⟩ := hxN; go_simp; try (with_reducible rfl))); (try simp only [Act.put, List.getElem_toArray, List.getElem_cons_succ, List.getElem_cons_zero, List.setIfInBounds_toArray, List.set_cons_zero, List.set_cons_succ])
    (refine wpAnyH_take (i := 9) (v := ?_) rfl (by kernel_rfl) (by kernel_rfl) (by kernel_rfl) (fun _ _ _ h => h) (Or.inl ⟨rfl, ?_⟩) (by assumption) ?_; rotate_left; focus (intro W hSw; (try dsimp only at hSw); have hxx := HXX.out _ hSw; obtain ⟨hxA, hxV, hxN⟩ := hxx; obtain ⟨⟨iA0, iA1, iA2, iA3⟩, _, _⟩ := hxA; obtain ⟨⟨iV0, iV1, iV2, iV3⟩, _, _⟩ := hxV; obtain ⟨⟨iN0, iN1, iN2, iN3⟩, _, _⟩ := hxN; go_simp; try (with_reducible rfl))); (try simp only [Act.put, List.getElem_toArray, List.getElem_cons_succ, List.getElem_cons_zero, List.setIfInBounds_toArray, List.set_cons_zero, List.set_cons_succ])
    (refine wpAnyH_take (i := 11) (v := ?_) rfl (by kernel_rfl) (by kernel_rfl) (by kernel_rfl) (fun _ _ _ h => h) (Or.inl ⟨rfl, ?_⟩) (by assumption) ?_; rotate_left; focus (intro W hSw; (try dsimp only at hSw); have hxx := HXX.out _ hSw; obtain ⟨hxA, hxV, hxN⟩ := hxx; obtain ⟨⟨iA0, iA1, iA2, iA3⟩, _, _⟩ := hxA; obtain ⟨⟨iV0, iV1, iV2, iV3⟩, _, _⟩ := hxV; obtain ⟨⟨iN0, iN1, iN2, iN3⟩, _, _⟩ := hxN; go_simp; try (with_reducible rfl))); (try simp only [Act.put, List.getElem_toArray, List.getElem_cons_succ, List.getElem_cons_zero, List.setIfInBounds_toArray, List.set_cons_zero, List.set_cons_succ])
    refine wpAnyH_ready (rs := [10]) (by kernel_rfl) (by simp) ?_; refine AllReadyH.cons rfl (fun K hK => ?_) AllReadyH.nil
    go_simp; (go_at_call 40; refine (IC.out _).mono ?_; rintro en ywr7x0 ⟨rfl, hb2⟩); have HA := Lib.hid (HA.out.below hb2); have HV := Lib.hid (HV.out.below hb2); have HN := Lib.hid (HN.out.below hb2); refine hK.out _ _ (below_after hb2 hHeld) (fun hHeld2 => ?_); clear hb2; (clear hHeld; rename _ => hHeld; clear hK K; have hHeld : Below w7.heap.size w7 _ := hHeld); (try simp only [Act.put, List.getElem_toArray, List.getElem_cons_succ, List.getElem_cons_zero, List.setIfInBounds_toArray, List.set_cons_zero, List.set_cons_succ])
    refine wpAnyH_ready (rs := [12]) (by kernel_rfl) (by simp) ?_; refine AllReadyH.cons rfl (fun K hK => ?_) AllReadyH.nil
    go_simp; (go_at_call 41; refine (SC.out _).mono ?_; rintro en ywr7x1 ⟨rfl, hb2⟩); have HA := Lib.hid (HA.out.below hb2); have HV := Lib.hid (HV.out.below hb2); have HN := Lib.hid (HN.out.below hb2); refine hK.out _ _ (below_after hb2 hHeld) (fun hHeld2 => ?_); clear hb2; (clear hHeld; rename _ => hHeld; clear hK K; have hHeld : Below w7.heap.size w7 _ := hHeld); (try simp only [Act.put, List.getElem_toArray, List.getElem_cons_succ, List.getElem_cons_zero, List.setIfInBounds_toArray, List.set_cons_zero, List.set_cons_succ])
    (refine wpAnyH_take (i := 13) (v := ?_) rfl (by kernel_rfl) (by kernel_rfl) (by kernel_rfl) (fun _ _ _ h => h) (Or.inl ⟨rfl, ?_⟩) (by assumption) ?_; rotate_left; focus (intro W hSw; (try dsimp only at hSw); have hxx := HXX.out _ hSw; obtain ⟨hxA, hxV, hxN⟩ := hxx; obtain ⟨⟨iA0, iA1, iA2, iA3⟩, _, _⟩ := hxA; obtain ⟨⟨iV0, iV1, iV2, iV3⟩, _, _⟩ := hxV; obtain ⟨⟨iN0, iN1, iN2, iN3⟩, _, _⟩ := hxN; go_simp; try (with_reducible rfl))); (try simp only [Act.put, List.getElem_toArray, List.getElem_cons_succ, List.getElem_cons_zero, List.setIfInBounds_toArray, List.set_cons_zero, List.set_cons_succ])
    (refine wpAnyH_take (i := 14) (v := ?_) rfl (by kernel_rfl) (by kernel_rfl) (by kernel_rfl) (fun _ _ _ h => h) (Or.inl ⟨rfl, ?_⟩) (by assumption) ?_; rotate_left; focus (intro W hSw; (try dsimp only at hSw); have hxx := HXX.out _ hSw; obtain ⟨hxA, hxV, hxN⟩ := hxx; obtain ⟨⟨iA0, iA1, iA2, iA3⟩, _, _⟩ := hxA; obtain ⟨⟨iV0, iV1, iV2, iV3⟩, _, _⟩ := hxV; obtain ⟨⟨iN0, iN1, iN2, iN3⟩, _, _⟩ := hxN; go_simp; try (with_reducible rfl))); (try simp only [Act.put, List.getElem_toArray, List.getElem_cons_succ, List.getElem_cons_zero, List.setIfInBounds_toArray, List.set_cons_zero, List.set_cons_succ])
    refine wpAnyH_done (by kernel_rfl) ?_ _
    have HB := Lib.hid (HB.out.trans (hHeld.mono HB.out.size))
    clear hHeld HXX
    clear HN
    clear IC SC
    (try simp only [bne_self_eq_false])
    obtain ⟨⟨qA0, qA1, qA2, qA3⟩, ⟨fA0, fA1, fA2, fA3⟩, zA⟩ := HA.out
    obtain ⟨⟨qV0, qV1, qV2, qV3⟩, ⟨fV0, fV1, fV2, fV3⟩, zV⟩ := HV.out
    go_wp2_with fail
    go_at_call 42
    refine (CD2.out _ HB.out).mono ?_
    rintro e w58 ⟨z0, z1, z2, z3, rfl, hb⟩
    clear qA0 fA0 qA1 fA1 qA2 fA2 qA3 fA3 zA qV0 fV0 qV1 fV1 qV2 fV2 qV3 fV3 zV
    have HA := Lib.hid (HA.out.below hb)
    have HV := Lib.hid (HV.out.below hb)
    have HB := Lib.hid (below_after hb HB.out)
    clear hb
    obtain ⟨⟨qA0, qA1, qA2, qA3⟩, ⟨fA0, fA1, fA2, fA3⟩, zA⟩ := HA.out
    obtain ⟨⟨qV0, qV1, qV2, qV3⟩, ⟨fV0, fV1, fV2, fV3⟩, zV⟩ := HV.out
    go_upto_region 9 with fail
    obtain ⟨GZ, hGZ⟩ : ∃ g, w58.heap.size = g := ⟨_, rfl⟩
    obtain ⟨w59, hw59⟩ : ∃ wx, wx = w58.alloc (.cells #[.int .i64 z0, .int .i64 z1, .int .i64 z2, .int .i64 z3] 52) := ⟨_, rfl⟩
    rw [← hw59, hGZ]
    have HZ : Hid (Bk4 w59 GZ z0 z1 z2 z3) := by rw [hw59, ← hGZ]; exact bk4_new w58 z0 z1 z2 z3 _
    have le_Z : w.heap.size ≤ GZ := by rw [← hGZ]; exact HB.out.size
    have ne_Z_A : GZ ≠ GA := by have := HA.out.2.2; omega
    have ne_A_Z : GA ≠ GZ := Ne.symm ne_Z_A
    have ne_Z_V : GZ ≠ GV := by have := HV.out.2.2; omega
    have ne_V_Z : GV ≠ GZ := Ne.symm ne_Z_V
    clear qA0 fA0 qA1 fA1 qA2 fA2 qA3 fA3 zA qV0 fV0 qV1 fV1 qV2 fV2 qV3 fV3 zV
    have HA := Lib.hid (HA.out.below ((Below.refl _ _).alloc (Nat.le_refl _) (.cells #[.int .i64 z0, .int .i64 z1, .int .i64 z2, .int .i64 z3] 52)))
    have HV := Lib.hid (HV.out.below ((Below.refl _ _).alloc (Nat.le_refl _) (.cells #[.int .i64 z0, .int .i64 z1, .int .i64 z2, .int .i64 z3] 52)))
    have HB := Lib.hid (Below.alloc HB.out HB.out.size (.cells #[.int .i64 z0, .int .i64 z1, .int .i64 z2, .int .i64 z3] 52))
    rw [← hw59] at HA HV HB
    clear hw59 hGZ
    have I1 := Lib.hid (fun w => impl_CosineOf_any z0 z1 z2 z3 w)
    have S1 := Lib.hid (fun w => spec_CosineOf_any z0 z1 z2 z3 w)
    have I2 := Lib.hid (fun w => impl_SineOf_any z0 z1 z2 z3 w)
    have S2 := Lib.hid (fun w => spec_SineOf_any z0 z1 z2 z3 w)
    have I3 := Lib.hid (fun w => impl_TransposeCorner_any z0 z1 z2 z3 w)
    have S3 := Lib.hid (fun w => spec_TransposeCorner_any z0 z1 z2 z3 w)
    have I4 := Lib.hid (fun w => impl_AdjacentCorner_any z0 z1 z2 z3 w)
    have S4 := Lib.hid (fun w => spec_AdjacentCorner_any z0 z1 z2 z3 w)
    have I5 := Lib.hid (fun w => impl_IsRightCorner_any z0 z1 z2 z3 w)
    have S5 := Lib.hid (fun w => spec_IsRightCorner_any z0 z1 z2 z3 w)
    obtain ⟨cv, Ecv⟩ : ∃ x, oni (crC z0 z1 z2 z3) (cosI z0 z1 z2 z3) = x := ⟨_, rfl⟩
    rw [Ecv] at I1 S1
    have HEcv := Lib.hid Ecv
    clear Ecv
    obtain ⟨sv, Esv⟩ : ∃ x, oni (crC z0 z1 z2 z3) (sinI z0 z1 z2 z3) = x := ⟨_, rfl⟩
    rw [Esv] at I2 S2
    have HEsv := Lib.hid Esv
    clear Esv
    obtain ⟨c2, Ec2⟩ : ∃ x, crC z0 z1 z2 z3 = x := ⟨_, rfl⟩
    rw [Ec2] at I1 S1 I2 S2
    have HEc2 := Lib.hid Ec2
    clear Ec2
    obtain ⟨t0, Et0⟩ : ∃ x, oni (cr1 z0 z1 z2 z3) z2 = x := ⟨_, rfl⟩
    obtain ⟨t1, Et1⟩ : ∃ x, oni (cr1 z0 z1 z2 z3) z3 = x := ⟨_, rfl⟩
    obtain ⟨t2, Et2⟩ : ∃ x, oni (cr1 z0 z1 z2 z3) z0 = x := ⟨_, rfl⟩
    obtain ⟨t3, Et3⟩ : ∃ x, oni (cr1 z0 z1 z2 z3) z1 = x := ⟨_, rfl⟩
    rw [Et0, Et1, Et2, Et3] at I3 S3
    have HEt0 := Lib.hid Et0
    have HEt1 := Lib.hid Et1
    have HEt2 := Lib.hid Et2
    have HEt3 := Lib.hid Et3
    clear Et0 Et1 Et2 Et3
    obtain ⟨j2, Ej2⟩ : ∃ x, oni (cr1 z0 z1 z2 z3) (-z0) = x := ⟨_, rfl⟩
    obtain ⟨j3, Ej3⟩ : ∃ x, oni (cr1 z0 z1 z2 z3) (-z1) = x := ⟨_, rfl⟩
    rw [Ej2, Ej3] at I4 S4
    have HEj2 := Lib.hid Ej2
    have HEj3 := Lib.hid Ej3
    clear Ej2 Ej3
    rw [HEt0.out, HEt1.out] at I4 S4
    obtain ⟨c4, Ec4⟩ : ∃ x, cr1 z0 z1 z2 z3 = x := ⟨_, rfl⟩
    rw [Ec4] at I3 S3 I4 S4 I5 S5
    have HEc4 := Lib.hid Ec4
    clear Ec4
    obtain ⟨rv, Erv⟩ : ∃ x, rtV z0 z1 z2 z3 = x := ⟨_, rfl⟩
    rw [Erv] at I5 S5
    clear Erv
    obtain ⟨⟨qA0, qA1, qA2, qA3⟩, ⟨fA0, fA1, fA2, fA3⟩, zA⟩ := HA.out
    obtain ⟨⟨qV0, qV1, qV2, qV3⟩, ⟨fV0, fV1, fV2, fV3⟩, zV⟩ := HV.out
    obtain ⟨⟨qZ0, qZ1, qZ2, qZ3⟩, ⟨fZ0, fZ1, fZ2, fZ3⟩, zZ⟩ := HZ.out
    go_wp2_with fail
    go_at_call 43
    refine (I1.out _).mono ?_
    rintro e w60 ⟨rfl, hb⟩
    clear qA0 fA0 qA1 fA1 qA2 fA2 qA3 fA3 zA qV0 fV0 qV1 fV1 qV2 fV2 qV3 fV3 zV qZ0 fZ0 qZ1 fZ1 qZ2 fZ2 qZ3 fZ3 zZ
    have HA := Lib.hid (HA.out.below hb)
    have HV := Lib.hid (HV.out.below hb)
    have HZ := Lib.hid (HZ.out.below hb)
    have HB := Lib.hid (below_after hb HB.out)
    clear hb
    obtain ⟨⟨qA0, qA1, qA2, qA3⟩, ⟨fA0, fA1, fA2, fA3⟩, zA⟩ := HA.out
    obtain ⟨⟨qV0, qV1, qV2, qV3⟩, ⟨fV0, fV1, fV2, fV3⟩, zV⟩ := HV.out
    obtain ⟨⟨qZ0, qZ1, qZ2, qZ3⟩, ⟨fZ0, fZ1, fZ2, fZ3⟩, zZ⟩ := HZ.out
    go_wp2_with fail
    go_at_call 44
    refine (S1.out _).mono ?_
    rintro e w61 ⟨rfl, hb⟩
    clear qA0 fA0 qA1 fA1 qA2 fA2 qA3 fA3 zA qV0 fV0 qV1 fV1 qV2 fV2 qV3 fV3 zV qZ0 fZ0 qZ1 fZ1 qZ2 fZ2 qZ3 fZ3 zZ
    have HA := Lib.hid (HA.out.below hb)
    have HV := Lib.hid (HV.out.below hb)
    have HZ := Lib.hid (HZ.out.below hb)
    have HB := Lib.hid (below_after hb HB.out)
    clear hb
    obtain ⟨⟨qA0, qA1, qA2, qA3⟩, ⟨fA0, fA1, fA2, fA3⟩, zA⟩ := HA.out
    obtain ⟨⟨qV0, qV1, qV2, qV3⟩, ⟨fV0, fV1, fV2, fV3⟩, zV⟩ := HV.out
    obtain ⟨⟨qZ0, qZ1, qZ2, qZ3⟩, ⟨fZ0, fZ1, fZ2, fZ3⟩, zZ⟩ := HZ.out
    go_wp2_with fail
    go_at_call 45
    refine (I2.out _).mono ?_
    rintro e w62 ⟨rfl, hb⟩
    clear qA0 fA0 qA1 fA1 qA2 fA2 qA3 fA3 zA qV0 fV0 qV1 fV1 qV2 fV2 qV3 fV3 zV qZ0 fZ0 qZ1 fZ1 qZ2 fZ2 qZ3 fZ3 zZ
    have HA := Lib.hid (HA.out.below hb)
    have HV := Lib.hid (HV.out.below hb)
    have HZ := Lib.hid (HZ.out.below hb)
    have HB := Lib.hid (below_after hb HB.out)
    clear hb
    obtain ⟨⟨qA0, qA1, qA2, qA3⟩, ⟨fA0, fA1, fA2, fA3⟩, zA⟩ := HA.out
    obtain ⟨⟨qV0, qV1, qV2, qV3⟩, ⟨fV0, fV1, fV2, fV3⟩, zV⟩ := HV.out
    obtain ⟨⟨qZ0, qZ1, qZ2, qZ3⟩, ⟨fZ0, fZ1, fZ2, fZ3⟩, zZ⟩ := HZ.out
    go_wp2_with fail
    go_at_call 46
    refine (S2.out _).mono ?_
    rintro e w63 ⟨rfl, hb⟩
    clear qA0 fA0 qA1 fA1 qA2 fA2 qA3 fA3 zA qV0 fV0 qV1 fV1 qV2 fV2 qV3 fV3 zV qZ0 fZ0 qZ1 fZ1 qZ2 fZ2 qZ3 fZ3 zZ
    have HA := Lib.hid (HA.out.below hb)
    have HV := Lib.hid (HV.out.below hb)
    have HZ := Lib.hid (HZ.out.below hb)
    have HB := Lib.hid (below_after hb HB.out)
    clear hb
    obtain ⟨⟨qA0, qA1, qA2, qA3⟩, ⟨fA0, fA1, fA2, fA3⟩, zA⟩ := HA.out
    obtain ⟨⟨qV0, qV1, qV2, qV3⟩, ⟨fV0, fV1, fV2, fV3⟩, zV⟩ := HV.out
    obtain ⟨⟨qZ0, qZ1, qZ2, qZ3⟩, ⟨fZ0, fZ1, fZ2, fZ3⟩, zZ⟩ := HZ.out
    go_wp2_with fail
    go_at_call 47
    refine (I3.out _).mono ?_
    rintro e w64 ⟨rfl, hb⟩
    clear qA0 fA0 qA1 fA1 qA2 fA2 qA3 fA3 zA qV0 fV0 qV1 fV1 qV2 fV2 qV3 fV3 zV qZ0 fZ0 qZ1 fZ1 qZ2 fZ2 qZ3 fZ3 zZ
    have HA := Lib.hid (HA.out.below hb)
    have HV := Lib.hid (HV.out.below hb)
    have HZ := Lib.hid (HZ.out.below hb)
    have HB := Lib.hid (below_after hb HB.out)
    clear hb
    obtain ⟨⟨qA0, qA1, qA2, qA3⟩, ⟨fA0, fA1, fA2, fA3⟩, zA⟩ := HA.out
    obtain ⟨⟨qV0, qV1, qV2, qV3⟩, ⟨fV0, fV1, fV2, fV3⟩, zV⟩ := HV.out
    obtain ⟨⟨qZ0, qZ1, qZ2, qZ3⟩, ⟨fZ0, fZ1, fZ2, fZ3⟩, zZ⟩ := HZ.out
    go_upto_region 18 with fail
    obtain ⟨GT, hGT⟩ : ∃ g, w64.heap.size = g := ⟨_, rfl⟩
    obtain ⟨w65, hw65⟩ : ∃ wx, wx = w64.alloc (.cells #[.int .i64 t0, .int .i64 t1, .int .i64 t2, .int .i64 t3] 52) := ⟨_, rfl⟩
    rw [← hw65, hGT]
    have HT : Hid (Bk4 w65 GT t0 t1 t2 t3) := by rw [hw65, ← hGT]; exact bk4_new w64 t0 t1 t2 t3 _
    have le_T : w.heap.size ≤ GT := by rw [← hGT]; exact HB.out.size
    have ne_T_A : GT ≠ GA := by have := HA.out.2.2; omega
    have ne_A_T : GA ≠ GT := Ne.symm ne_T_A
    have ne_T_V : GT ≠ GV := by have := HV.out.2.2; omega
    have ne_V_T : GV ≠ GT := Ne.symm ne_T_V
    have ne_T_Z : GT ≠ GZ := by have := HZ.out.2.2; omega
    have ne_Z_T : GZ ≠ GT := Ne.symm ne_T_Z
    clear qA0 fA0 qA1 fA1 qA2 fA2 qA3 fA3 zA qV0 fV0 qV1 fV1 qV2 fV2 qV3 fV3 zV qZ0 fZ0 qZ1 fZ1 qZ2 fZ2 qZ3 fZ3 zZ
    have HA := Lib.hid (HA.out.below ((Below.refl _ _).alloc (Nat.le_refl _) (.cells #[.int .i64 t0, .int .i64 t1, .int .i64 t2, .int .i64 t3] 52)))
    have HV := Lib.hid (HV.out.below ((Below.refl _ _).alloc (Nat.le_refl _) (.cells #[.int .i64 t0, .int .i64 t1, .int .i64 t2, .int .i64 t3] 52)))
    have HZ := Lib.hid (HZ.out.below ((Below.refl _ _).alloc (Nat.le_refl _) (.cells #[.int .i64 t0, .int .i64 t1, .int .i64 t2, .int .i64 t3] 52)))
    have HB := Lib.hid (Below.alloc HB.out HB.out.size (.cells #[.int .i64 t0, .int .i64 t1, .int .i64 t2, .int .i64 t3] 52))
    rw [← hw65] at HA HV HZ HB
    clear hw65 hGT
    obtain ⟨⟨qA0, qA1, qA2, qA3⟩, ⟨fA0, fA1, fA2, fA3⟩, zA⟩ := HA.out
    obtain ⟨⟨qV0, qV1, qV2, qV3⟩, ⟨fV0, fV1, fV2, fV3⟩, zV⟩ := HV.out
    obtain ⟨⟨qZ0, qZ1, qZ2, qZ3⟩, ⟨fZ0, fZ1, fZ2, fZ3⟩, zZ⟩ := HZ.out
    obtain ⟨⟨qT0, qT1, qT2, qT3⟩, ⟨fT0, fT1, fT2, fT3⟩, zT⟩ := HT.out
    go_wp2_with fail
    go_at_call 48
    refine (S3.out _).mono ?_
    rintro e w66 ⟨rfl, hb⟩
    clear qA0 fA0 qA1 fA1 qA2 fA2 qA3 fA3 zA qV0 fV0 qV1 fV1 qV2 fV2 qV3 fV3 zV qZ0 fZ0 qZ1 fZ1 qZ2 fZ2 qZ3 fZ3 zZ qT0 fT0 qT1 fT1 qT2 fT2 qT3 fT3 zT
    have HA := Lib.hid (HA.out.below hb)
    have HV := Lib.hid (HV.out.below hb)
    have HZ := Lib.hid (HZ.out.below hb)
    have HT := Lib.hid (HT.out.below hb)
    have HB := Lib.hid (below_after hb HB.out)
    clear hb
    obtain ⟨⟨qA0, qA1, qA2, qA3⟩, ⟨fA0, fA1, fA2, fA3⟩, zA⟩ := HA.out
    obtain ⟨⟨qV0, qV1, qV2, qV3⟩, ⟨fV0, fV1, fV2, fV3⟩, zV⟩ := HV.out
    obtain ⟨⟨qZ0, qZ1, qZ2, qZ3⟩, ⟨fZ0, fZ1, fZ2, fZ3⟩, zZ⟩ := HZ.out
    obtain ⟨⟨qT0, qT1, qT2, qT3⟩, ⟨fT0, fT1, fT2, fT3⟩, zT⟩ := HT.out
    go_upto_region 19 with fail
    obtain ⟨GU, hGU⟩ : ∃ g, w66.heap.size = g := ⟨_, rfl⟩
    obtain ⟨w67, hw67⟩ : ∃ wx, wx = w66.alloc (.cells #[.int .i64 t0, .int .i64 t1, .int .i64 t2, .int .i64 t3] 52) := ⟨_, rfl⟩
    rw [← hw67, hGU]
    have HU : Hid (Bk4 w67 GU t0 t1 t2 t3) := by rw [hw67, ← hGU]; exact bk4_new w66 t0 t1 t2 t3 _
    have le_U : w.heap.size ≤ GU := by rw [← hGU]; exact HB.out.size
    have ne_U_A : GU ≠ GA := by have := HA.out.2.2; omega
    have ne_A_U : GA ≠ GU := Ne.symm ne_U_A
    have ne_U_V : GU ≠ GV := by have := HV.out.2.2; omega
    have ne_V_U : GV ≠ GU := Ne.symm ne_U_V
    have ne_U_Z : GU ≠ GZ := by have := HZ.out.2.2; omega
    have ne_Z_U : GZ ≠ GU := Ne.symm ne_U_Z
    have ne_U_T : GU ≠ GT := by have := HT.out.2.2; omega
    have ne_T_U : GT ≠ GU := Ne.symm ne_U_T
    clear qA0 fA0 qA1 fA1 qA2 fA2 qA3 fA3 zA qV0 fV0 qV1 fV1 qV2 fV2 qV3 fV3 zV qZ0 fZ0 qZ1 fZ1 qZ2 fZ2 qZ3 fZ3 zZ qT0 fT0 qT1 fT1 qT2 fT2 qT3 fT3 zT
    have HA := Lib.hid (HA.out.below ((Below.refl _ _).alloc (Nat.le_refl _) (.cells #[.int .i64 t0, .int .i64 t1, .int .i64 t2, .int .i64 t3] 52)))
    have HV := Lib.hid (HV.out.below ((Below.refl _ _).alloc (Nat.le_refl _) (.cells #[.int .i64 t0, .int .i64 t1, .int .i64 t2, .int .i64 t3] 52)))
    have HZ := Lib.hid (HZ.out.below ((Below.refl _ _).alloc (Nat.le_refl _) (.cells #[.int .i64 t0, .int .i64 t1, .int .i64 t2, .int .i64 t3] 52)))
    have HT := Lib.hid (HT.out.below ((Below.refl _ _).alloc (Nat.le_refl _) (.cells #[.int .i64 t0, .int .i64 t1, .int .i64 t2, .int .i64 t3] 52)))
    have HB := Lib.hid (Below.alloc HB.out HB.out.size (.cells #[.int .i64 t0, .int .i64 t1, .int .i64 t2, .int .i64 t3] 52))
    rw [← hw67] at HA HV HZ HT HB
    clear hw67 hGU
    obtain ⟨⟨qA0, qA1, qA2, qA3⟩, ⟨fA0, fA1, fA2, fA3⟩, zA⟩ := HA.out
    obtain ⟨⟨qV0, qV1, qV2, qV3⟩, ⟨fV0, fV1, fV2, fV3⟩, zV⟩ := HV.out
    obtain ⟨⟨qZ0, qZ1, qZ2, qZ3⟩, ⟨fZ0, fZ1, fZ2, fZ3⟩, zZ⟩ := HZ.out
    obtain ⟨⟨qT0, qT1, qT2, qT3⟩, ⟨fT0, fT1, fT2, fT3⟩, zT⟩ := HT.out
    obtain ⟨⟨qU0, qU1, qU2, qU3⟩, ⟨fU0, fU1, fU2, fU3⟩, zU⟩ := HU.out
    go_wp2_with fail
    go_at_call 49
    refine (I4.out _).mono ?_
    rintro e w68 ⟨rfl, hb⟩
    clear qA0 fA0 qA1 fA1 qA2 fA2 qA3 fA3 zA qV0 fV0 qV1 fV1 qV2 fV2 qV3 fV3 zV qZ0 fZ0 qZ1 fZ1 qZ2 fZ2 qZ3 fZ3 zZ qT0 fT0 qT1 fT1 qT2 fT2 qT3 fT3 zT qU0 fU0 qU1 fU1 qU2 fU2 qU3 fU3 zU
    have HA := Lib.hid (HA.out.below hb)
    have HV := Lib.hid (HV.out.below hb)
    have HZ := Lib.hid (HZ.out.below hb)
    have HT := Lib.hid (HT.out.below hb)
    have HU := Lib.hid (HU.out.below hb)
    have HB := Lib.hid (below_after hb HB.out)
    clear hb
    clear HU
    obtain ⟨⟨qA0, qA1, qA2, qA3⟩, ⟨fA0, fA1, fA2, fA3⟩, zA⟩ := HA.out
    obtain ⟨⟨qV0, qV1, qV2, qV3⟩, ⟨fV0, fV1, fV2, fV3⟩, zV⟩ := HV.out
    obtain ⟨⟨qZ0, qZ1, qZ2, qZ3⟩, ⟨fZ0, fZ1, fZ2, fZ3⟩, zZ⟩ := HZ.out
    obtain ⟨⟨qT0, qT1, qT2, qT3⟩, ⟨fT0, fT1, fT2, fT3⟩, zT⟩ := HT.out
    go_upto_region 22 with fail
    obtain ⟨GJ, hGJ⟩ : ∃ g, w68.heap.size = g := ⟨_, rfl⟩
    obtain ⟨w69, hw69⟩ : ∃ wx, wx = w68.alloc (.cells #[.int .i64 t0, .int .i64 t1, .int .i64 j2, .int .i64 j3] 52) := ⟨_, rfl⟩
    rw [← hw69, hGJ]
    have HJ : Hid (Bk4 w69 GJ t0 t1 j2 j3) := by rw [hw69, ← hGJ]; exact bk4_new w68 t0 t1 j2 j3 _
    have le_J : w.heap.size ≤ GJ := by rw [← hGJ]; exact HB.out.size
    have ne_J_A : GJ ≠ GA := by have := HA.out.2.2; omega
    have ne_A_J : GA ≠ GJ := Ne.symm ne_J_A
    have ne_J_V : GJ ≠ GV := by have := HV.out.2.2; omega
    have ne_V_J : GV ≠ GJ := Ne.symm ne_J_V
    have ne_J_Z : GJ ≠ GZ := by have := HZ.out.2.2; omega
    have ne_Z_J : GZ ≠ GJ := Ne.symm ne_J_Z
    have ne_J_T : GJ ≠ GT := by have := HT.out.2.2; omega
    have ne_T_J : GT ≠ GJ := Ne.symm ne_J_T
    clear qA0 fA0 qA1 fA1 qA2 fA2 qA3 fA3 zA qV0 fV0 qV1 fV1 qV2 fV2 qV3 fV3 zV qZ0 fZ0 qZ1 fZ1 qZ2 fZ2 qZ3 fZ3 zZ qT0 fT0 qT1 fT1 qT2 fT2 qT3 fT3 zT
    have HA := Lib.hid (HA.out.below ((Below.refl _ _).alloc (Nat.le_refl _) (.cells #[.int .i64 t0, .int .i64 t1, .int .i64 j2, .int .i64 j3] 52)))
    have HV := Lib.hid (HV.out.below ((Below.refl _ _).alloc (Nat.le_refl _) (.cells #[.int .i64 t0, .int .i64 t1, .int .i64 j2, .int .i64 j3] 52)))
    have HZ := Lib.hid (HZ.out.below ((Below.refl _ _).alloc (Nat.le_refl _) (.cells #[.int .i64 t0, .int .i64 t1, .int .i64 j2, .int .i64 j3] 52)))
    have HT := Lib.hid (HT.out.below ((Below.refl _ _).alloc (Nat.le_refl _) (.cells #[.int .i64 t0, .int .i64 t1, .int .i64 j2, .int .i64 j3] 52)))
    have HB := Lib.hid (Below.alloc HB.out HB.out.size (.cells #[.int .i64 t0, .int .i64 t1, .int .i64 j2, .int .i64 j3] 52))
    rw [← hw69] at HA HV HZ HT HB
    clear hw69 hGJ
    obtain ⟨⟨qA0, qA1, qA2, qA3⟩, ⟨fA0, fA1, fA2, fA3⟩, zA⟩ := HA.out
    obtain ⟨⟨qV0, qV1, qV2, qV3⟩, ⟨fV0, fV1, fV2, fV3⟩, zV⟩ := HV.out
    obtain ⟨⟨qZ0, qZ1, qZ2, qZ3⟩, ⟨fZ0, fZ1, fZ2, fZ3⟩, zZ⟩ := HZ.out
    obtain ⟨⟨qT0, qT1, qT2, qT3⟩, ⟨fT0, fT1, fT2, fT3⟩, zT⟩ := HT.out
    obtain ⟨⟨qJ0, qJ1, qJ2, qJ3⟩, ⟨fJ0, fJ1, fJ2, fJ3⟩, zJ⟩ := HJ.out
    go_wp2_with fail
    go_at_call 50
    refine (S4.out _).mono ?_
    rintro e w70 ⟨rfl, hb⟩
    clear qA0 fA0 qA1 fA1 qA2 fA2 qA3 fA3 zA qV0 fV0 qV1 fV1 qV2 fV2 qV3 fV3 zV qZ0 fZ0 qZ1 fZ1 qZ2 fZ2 qZ3 fZ3 zZ qT0 fT0 qT1 fT1 qT2 fT2 qT3 fT3 zT qJ0 fJ0 qJ1 fJ1 qJ2 fJ2 qJ3 fJ3 zJ
    have HA := Lib.hid (HA.out.below hb)
    have HV := Lib.hid (HV.out.below hb)
    have HZ := Lib.hid (HZ.out.below hb)
    have HT := Lib.hid (HT.out.below hb)
    have HJ := Lib.hid (HJ.out.below hb)
    have HB := Lib.hid (below_after hb HB.out)
    clear hb
    obtain ⟨⟨qA0, qA1, qA2, qA3⟩, ⟨fA0, fA1, fA2, fA3⟩, zA⟩ := HA.out
    obtain ⟨⟨qV0, qV1, qV2, qV3⟩, ⟨fV0, fV1, fV2, fV3⟩, zV⟩ := HV.out
    obtain ⟨⟨qZ0, qZ1, qZ2, qZ3⟩, ⟨fZ0, fZ1, fZ2, fZ3⟩, zZ⟩ := HZ.out
    obtain ⟨⟨qT0, qT1, qT2, qT3⟩, ⟨fT0, fT1, fT2, fT3⟩, zT⟩ := HT.out
    obtain ⟨⟨qJ0, qJ1, qJ2, qJ3⟩, ⟨fJ0, fJ1, fJ2, fJ3⟩, zJ⟩ := HJ.out
    go_upto_region 23 with fail
    obtain ⟨GK, hGK⟩ : ∃ g, w70.heap.size = g := ⟨_, rfl⟩
    obtain ⟨w71, hw71⟩ : ∃ wx, wx = w70.alloc (.cells #[.int .i64 t0, .int .i64 t1, .int .i64 j2, .int .i64 j3] 52) := ⟨_, rfl⟩
    rw [← hw71, hGK]
    have HK : Hid (Bk4 w71 GK t0 t1 j2 j3) := by rw [hw71, ← hGK]; exact bk4_new w70 t0 t1 j2 j3 _
    have le_K : w.heap.size ≤ GK := by rw [← hGK]; exact HB.out.size
    have ne_K_A : GK ≠ GA := by have := HA.out.2.2; omega
    have ne_A_K : GA ≠ GK := Ne.symm ne_K_A
    have ne_K_V : GK ≠ GV := by have := HV.out.2.2; omega
    have ne_V_K : GV ≠ GK := Ne.symm ne_K_V
    have ne_K_Z : GK ≠ GZ := by have := HZ.out.2.2; omega
    have ne_Z_K : GZ ≠ GK := Ne.symm ne_K_Z
    have ne_K_T : GK ≠ GT := by have := HT.out.2.2; omega
    have ne_T_K : GT ≠ GK := Ne.symm ne_K_T
    have ne_K_J : GK ≠ GJ := by have := HJ.out.2.2; omega
    have ne_J_K : GJ ≠ GK := Ne.symm ne_K_J
    clear qA0 fA0 qA1 fA1 qA2 fA2 qA3 fA3 zA qV0 fV0 qV1 fV1 qV2 fV2 qV3 fV3 zV qZ0 fZ0 qZ1 fZ1 qZ2 fZ2 qZ3 fZ3 zZ qT0 fT0 qT1 fT1 qT2 fT2 qT3 fT3 zT qJ0 fJ0 qJ1 fJ1 qJ2 fJ2 qJ3 fJ3 zJ
    have HA := Lib.hid (HA.out.below ((Below.refl _ _).alloc (Nat.le_refl _) (.cells #[.int .i64 t0, .int .i64 t1, .int .i64 j2, .int .i64 j3] 52)))
    have HV := Lib.hid (HV.out.below ((Below.refl _ _).alloc (Nat.le_refl _) (.cells #[.int .i64 t0, .int .i64 t1, .int .i64 j2, .int .i64 j3] 52)))
    have HZ := Lib.hid (HZ.out.below ((Below.refl _ _).alloc (Nat.le_refl _) (.cells #[.int .i64 t0, .int .i64 t1, .int .i64 j2, .int .i64 j3] 52)))
    have HT := Lib.hid (HT.out.below ((Below.refl _ _).alloc (Nat.le_refl _) (.cells #[.int .i64 t0, .int .i64 t1, .int .i64 j2, .int .i64 j3] 52)))
    have HJ := Lib.hid (HJ.out.below ((Below.refl _ _).alloc (Nat.le_refl _) (.cells #[.int .i64 t0, .int .i64 t1, .int .i64 j2, .int .i64 j3] 52)))
    have HB := Lib.hid (Below.alloc HB.out HB.out.size (.cells #[.int .i64 t0, .int .i64 t1, .int .i64 j2, .int .i64 j3] 52))
    rw [← hw71] at HA HV HZ HT HJ HB
    clear hw71 hGK
    obtain ⟨⟨qA0, qA1, qA2, qA3⟩, ⟨fA0, fA1, fA2, fA3⟩, zA⟩ := HA.out
    obtain ⟨⟨qV0, qV1, qV2, qV3⟩, ⟨fV0, fV1, fV2, fV3⟩, zV⟩ := HV.out
    obtain ⟨⟨qZ0, qZ1, qZ2, qZ3⟩, ⟨fZ0, fZ1, fZ2, fZ3⟩, zZ⟩ := HZ.out
    obtain ⟨⟨qT0, qT1, qT2, qT3⟩, ⟨fT0, fT1, fT2, fT3⟩, zT⟩ := HT.out
    obtain ⟨⟨qJ0, qJ1, qJ2, qJ3⟩, ⟨fJ0, fJ1, fJ2, fJ3⟩, zJ⟩ := HJ.out
    obtain ⟨⟨qK0, qK1, qK2, qK3⟩, ⟨fK0, fK1, fK2, fK3⟩, zK⟩ := HK.out
    go_wp2_with fail
    go_at_call 51
    refine (I5.out _).mono ?_
    rintro e w72 ⟨rfl, hb⟩
    clear qA0 fA0 qA1 fA1 qA2 fA2 qA3 fA3 zA qV0 fV0 qV1 fV1 qV2 fV2 qV3 fV3 zV qZ0 fZ0 qZ1 fZ1 qZ2 fZ2 qZ3 fZ3 zZ qT0 fT0 qT1 fT1 qT2 fT2 qT3 fT3 zT qJ0 fJ0 qJ1 fJ1 qJ2 fJ2 qJ3 fJ3 zJ qK0 fK0 qK1 fK1 qK2 fK2 qK3 fK3 zK
    have HA := Lib.hid (HA.out.below hb)
    have HV := Lib.hid (HV.out.below hb)
    have HZ := Lib.hid (HZ.out.below hb)
    have HT := Lib.hid (HT.out.below hb)
    have HJ := Lib.hid (HJ.out.below hb)
    have HK := Lib.hid (HK.out.below hb)
    have HB := Lib.hid (below_after hb HB.out)
    clear hb
    clear HK
    obtain ⟨⟨qA0, qA1, qA2, qA3⟩, ⟨fA0, fA1, fA2, fA3⟩, zA⟩ := HA.out
    obtain ⟨⟨qV0, qV1, qV2, qV3⟩, ⟨fV0, fV1, fV2, fV3⟩, zV⟩ := HV.out
    obtain ⟨⟨qZ0, qZ1, qZ2, qZ3⟩, ⟨fZ0, fZ1, fZ2, fZ3⟩, zZ⟩ := HZ.out
    obtain ⟨⟨qT0, qT1, qT2, qT3⟩, ⟨fT0, fT1, fT2, fT3⟩, zT⟩ := HT.out
    obtain ⟨⟨qJ0, qJ1, qJ2, qJ3⟩, ⟨fJ0, fJ1, fJ2, fJ3⟩, zJ⟩ := HJ.out
    go_wp2_with fail
    go_at_call 52
    refine (S5.out _).mono ?_
    rintro e w73 ⟨rfl, hb⟩
    clear qA0 fA0 qA1 fA1 qA2 fA2 qA3 fA3 zA qV0 fV0 qV1 fV1 qV2 fV2 qV3 fV3 zV qZ0 fZ0 qZ1 fZ1 qZ2 fZ2 qZ3 fZ3 zZ qT0 fT0 qT1 fT1 qT2 fT2 qT3 fT3 zT qJ0 fJ0 qJ1 fJ1 qJ2 fJ2 qJ3 fJ3 zJ
    have HA := Lib.hid (HA.out.below hb)
    have HV := Lib.hid (HV.out.below hb)
    have HZ := Lib.hid (HZ.out.below hb)
    have HT := Lib.hid (HT.out.below hb)
    have HJ := Lib.hid (HJ.out.below hb)
    have HB := Lib.hid (below_after hb HB.out)
    clear hb
    clear HZ
    clear I1 S1 I2 S2 I3 S3 I4 S4 I5 S5
    obtain ⟨⟨qA0, qA1, qA2, qA3⟩, ⟨fA0, fA1, fA2, fA3⟩, zA⟩ := HA.out
    obtain ⟨⟨qV0, qV1, qV2, qV3⟩, ⟨fV0, fV1, fV2, fV3⟩, zV⟩ := HV.out
    obtain ⟨⟨qT0, qT1, qT2, qT3⟩, ⟨fT0, fT1, fT2, fT3⟩, zT⟩ := HT.out
    obtain ⟨⟨qJ0, qJ1, qJ2, qJ3⟩, ⟨fJ0, fJ1, fJ2, fJ3⟩, zJ⟩ := HJ.out
    go_wp2_with fail
    go_at_call 53
    refine (CD3.out _ HB.out).mono ?_
    rintro e w74 ⟨g0, g1, g2, g3, h0, h1, h2, h3, rfl, hb⟩
    clear qA0 fA0 qA1 fA1 qA2 fA2 qA3 fA3 zA qV0 fV0 qV1 fV1 qV2 fV2 qV3 fV3 zV qT0 fT0 qT1 fT1 qT2 fT2 qT3 fT3 zT qJ0 fJ0 qJ1 fJ1 qJ2 fJ2 qJ3 fJ3 zJ
    have HA := Lib.hid (HA.out.below hb)
    have HV := Lib.hid (HV.out.below hb)
    have HT := Lib.hid (HT.out.below hb)
    have HJ := Lib.hid (HJ.out.below hb)
    have HB := Lib.hid (below_after hb HB.out)
    clear hb
    obtain ⟨⟨qA0, qA1, qA2, qA3⟩, ⟨fA0, fA1, fA2, fA3⟩, zA⟩ := HA.out
    obtain ⟨⟨qV0, qV1, qV2, qV3⟩, ⟨fV0, fV1, fV2, fV3⟩, zV⟩ := HV.out
    obtain ⟨⟨qT0, qT1, qT2, qT3⟩, ⟨fT0, fT1, fT2, fT3⟩, zT⟩ := HT.out
    obtain ⟨⟨qJ0, qJ1, qJ2, qJ3⟩, ⟨fJ0, fJ1, fJ2, fJ3⟩, zJ⟩ := HJ.out
    go_upto_region 30 with fail
    obtain ⟨w75, hw75⟩ : ∃ wx, wx = (w74.alloc (.cells #[.int .i64 g0, .int .i64 g1, .int .i64 g2, .int .i64 g3] 52)).alloc (.cells #[.int .i64 h0, .int .i64 h1, .int .i64 h2, .int .i64 h3] 52) := ⟨_, rfl⟩
    rw [← hw75]
    obtain ⟨GG, hGG⟩ : ∃ g, w74.heap.size = g := ⟨_, rfl⟩
    have HG : Hid (Bk4 w75 GG g0 g1 g2 g3) := by
      have h := (bk4_new w74 g0 g1 g2 g3 52).below (W' := w75) (by rw [hw75]; (repeat' (first | (with_reducible exact Below.refl _ _) | (with_reducible refine Below.alloc ?_ ?_ _) | (with_reducible refine Below.setCell ?_ ?_ _) | (with_reducible refine Below.drew ?_) | (with_reducible refine below_drewN ?_ _) | (with_reducible assumption) | (with_reducible refine below_after (by with_reducible assumption) ?_) | go_size)))
      (try simp only [World.size_alloc] at h)
      rw [hGG] at h
      exact h
    have le_G : w.heap.size ≤ GG := by have := HB.out.size; omega
    have ne_G_A : GG ≠ GA := by have := HA.out.2.2; omega
    have ne_A_G : GA ≠ GG := Ne.symm ne_G_A
    have ne_G_V : GG ≠ GV := by have := HV.out.2.2; omega
    have ne_V_G : GV ≠ GG := Ne.symm ne_G_V
    have ne_G_T : GG ≠ GT := by have := HT.out.2.2; omega
    have ne_T_G : GT ≠ GG := Ne.symm ne_G_T
    have ne_G_J : GG ≠ GJ := by have := HJ.out.2.2; omega
    have ne_J_G : GJ ≠ GG := Ne.symm ne_G_J
    obtain ⟨GH, hGH⟩ : ∃ g, w74.heap.size + 1 = g := ⟨_, rfl⟩
    have HH : Hid (Bk4 w75 GH h0 h1 h2 h3) := by
      have h := (bk4_new (w74.alloc (.cells #[.int .i64 g0, .int .i64 g1, .int .i64 g2, .int .i64 g3] 52)) h0 h1 h2 h3 52).below (W' := w75) (by rw [hw75]; (repeat' (first | (with_reducible exact Below.refl _ _) | (with_reducible refine Below.alloc ?_ ?_ _) | (with_reducible refine Below.setCell ?_ ?_ _) | (with_reducible refine Below.drew ?_) | (with_reducible refine below_drewN ?_ _) | (with_reducible assumption) | (with_reducible refine below_after (by with_reducible assumption) ?_) | go_size)))
      (try simp only [World.size_alloc] at h)
      rw [hGH] at h
      exact h
    have le_H : w.heap.size ≤ GH := by have := HB.out.size; omega
    have ne_H_A : GH ≠ GA := by have := HA.out.2.2; omega
    have ne_A_H : GA ≠ GH := Ne.symm ne_H_A
    have ne_H_V : GH ≠ GV := by have := HV.out.2.2; omega
    have ne_V_H : GV ≠ GH := Ne.symm ne_H_V
    have ne_H_T : GH ≠ GT := by have := HT.out.2.2; omega
    have ne_T_H : GT ≠ GH := Ne.symm ne_H_T
    have ne_H_J : GH ≠ GJ := by have := HJ.out.2.2; omega
    have ne_J_H : GJ ≠ GH := Ne.symm ne_H_J
    have ne_H_G : GH ≠ GG := by omega
    have ne_G_H : GG ≠ GH := Ne.symm ne_H_G
    clear qA0 fA0 qA1 fA1 qA2 fA2 qA3 fA3 zA qV0 fV0 qV1 fV1 qV2 fV2 qV3 fV3 zV qT0 fT0 qT1 fT1 qT2 fT2 qT3 fT3 zT qJ0 fJ0 qJ1 fJ1 qJ2 fJ2 qJ3 fJ3 zJ
    have hbn : Below w74.heap.size w74 w75 := by rw [hw75]; (repeat' (first | (with_reducible exact Below.refl _ _) | (with_reducible refine Below.alloc ?_ ?_ _) | (with_reducible refine Below.setCell ?_ ?_ _) | (with_reducible refine Below.drew ?_) | (with_reducible refine below_drewN ?_ _) | (with_reducible assumption) | (with_reducible refine below_after (by with_reducible assumption) ?_) | go_size))
    have HA := Lib.hid (HA.out.below hbn)
    have HV := Lib.hid (HV.out.below hbn)
    have HT := Lib.hid (HT.out.below hbn)
    have HJ := Lib.hid (HJ.out.below hbn)
    have HB := Lib.hid (below_after hbn HB.out)
    clear hbn
    rw [hGG] at hGH
    simp only [hGG]
    simp only [hGH]
    clear hw75 hGG hGH
    have I6 := Lib.hid (fun w => impl_AreEqualCorners_any g0 g1 g2 g3 h0 h1 h2 h3 w)
    have S6 := Lib.hid (fun w => spec_AreEqualCorners_any g0 g1 g2 g3 h0 h1 h2 h3 w)
    generalize eqV g0 g1 g2 g3 h0 h1 h2 h3 = ev at *
    generalize eqK g0 g1 g2 g3 h0 h1 h2 h3 = ek at *
    obtain ⟨⟨qA0, qA1, qA2, qA3⟩, ⟨fA0, fA1, fA2, fA3⟩, zA⟩ := HA.out
    obtain ⟨⟨qV0, qV1, qV2, qV3⟩, ⟨fV0, fV1, fV2, fV3⟩, zV⟩ := HV.out
    obtain ⟨⟨qT0, qT1, qT2, qT3⟩, ⟨fT0, fT1, fT2, fT3⟩, zT⟩ := HT.out
    obtain ⟨⟨qJ0, qJ1, qJ2, qJ3⟩, ⟨fJ0, fJ1, fJ2, fJ3⟩, zJ⟩ := HJ.out
    obtain ⟨⟨qG0, qG1, qG2, qG3⟩, ⟨fG0, fG1, fG2, fG3⟩, zG⟩ := HG.out
    obtain ⟨⟨qH0, qH1, qH2, qH3⟩, ⟨fH0, fH1, fH2, fH3⟩, zH⟩ := HH.out
    go_wp2_with fail
    go_at_call 54
    refine (I6.out _).mono ?_
    rintro e w76 ⟨rfl, hb⟩
    clear qA0 fA0 qA1 fA1 qA2 fA2 qA3 fA3 zA qV0 fV0 qV1 fV1 qV2 fV2 qV3 fV3 zV qT0 fT0 qT1 fT1 qT2 fT2 qT3 fT3 zT qJ0 fJ0 qJ1 fJ1 qJ2 fJ2 qJ3 fJ3 zJ qG0 fG0 qG1 fG1 qG2 fG2 qG3 fG3 zG qH0 fH0 qH1 fH1 qH2 fH2 qH3 fH3 zH
    have HA := Lib.hid (HA.out.below hb)
    have HV := Lib.hid (HV.out.below hb)
    have HT := Lib.hid (HT.out.below hb)
    have HJ := Lib.hid (HJ.out.below hb)
    have HG := Lib.hid (HG.out.below hb)
    have HH := Lib.hid (HH.out.below hb)
    have HB := Lib.hid (below_after hb HB.out)
    clear hb
    obtain ⟨⟨qA0, qA1, qA2, qA3⟩, ⟨fA0, fA1, fA2, fA3⟩, zA⟩ := HA.out
    obtain ⟨⟨qV0, qV1, qV2, qV3⟩, ⟨fV0, fV1, fV2, fV3⟩, zV⟩ := HV.out
    obtain ⟨⟨qT0, qT1, qT2, qT3⟩, ⟨fT0, fT1, fT2, fT3⟩, zT⟩ := HT.out
    obtain ⟨⟨qJ0, qJ1, qJ2, qJ3⟩, ⟨fJ0, fJ1, fJ2, fJ3⟩, zJ⟩ := HJ.out
    obtain ⟨⟨qG0, qG1, qG2, qG3⟩, ⟨fG0, fG1, fG2, fG3⟩, zG⟩ := HG.out
    obtain ⟨⟨qH0, qH1, qH2, qH3⟩, ⟨fH0, fH1, fH2, fH3⟩, zH⟩ := HH.out
    go_wp2_with fail
    go_at_call 55
    refine (S6.out _).mono ?_
    rintro e w77 ⟨rfl, hb⟩
    clear qA0 fA0 qA1 fA1 qA2 fA2 qA3 fA3 zA qV0 fV0 qV1 fV1 qV2 fV2 qV3 fV3 zV qT0 fT0 qT1 fT1 qT2 fT2 qT3 fT3 zT qJ0 fJ0 qJ1 fJ1 qJ2 fJ2 qJ3 fJ3 zJ qG0 fG0 qG1 fG1 qG2 fG2 qG3 fG3 zG qH0 fH0 qH1 fH1 qH2 fH2 qH3 fH3 zH
    have HA := Lib.hid (HA.out.below hb)
    have HV := Lib.hid (HV.out.below hb)
    have HT := Lib.hid (HT.out.below hb)
    have HJ := Lib.hid (HJ.out.below hb)
    have HG := Lib.hid (HG.out.below hb)
    have HH := Lib.hid (HH.out.below hb)
    have HB := Lib.hid (below_after hb HB.out)
    clear hb
    clear HG HH
    clear I6 S6
    by_cases hc2 : c2 = 0
    · skip
      subst hc2
      obtain ⟨q1, q2, q3, ⟨q4, q5, q6⟩, ⟨q7, q8⟩, q9, q10⟩ := cos_law HEc2.out
      have ecv : cosI z0 z1 z2 z3 = cv := by have := HEcv.out; rw [HEc2.out, oni_0] at this; exact this
      have esv : sinI z0 z1 z2 z3 = sv := by have := HEsv.out; rw [HEc2.out, oni_0] at this; exact this
      have et0 : z2 = t0 := by have := HEt0.out; rw [q3, oni_0] at this; exact this
      have et1 : z3 = t1 := by have := HEt1.out; rw [q3, oni_0] at this; exact this
      have et2 : z0 = t2 := by have := HEt2.out; rw [q3, oni_0] at this; exact this
      have et3 : z1 = t3 := by have := HEt3.out; rw [q3, oni_0] at this; exact this
      have ej2 : -z0 = j2 := by have := HEj2.out; rw [q3, oni_0] at this; exact this
      have ej3 : -z1 = j3 := by have := HEj3.out; rw [q3, oni_0] at this; exact this
      rw [ecv, esv] at q9
      rw [esv] at q8 q10
      rw [ecv, esv] at q5
      rw [ecv] at q4
      rw [esv] at q6
      rw [ej2, ej3] at q2 q10
      rw [et0, et1] at q2 q10
      rw [et0, et1, et2, et3] at q1 q7 q8 q9
      have I7 := Lib.hid (fun w => impl_CosineOf_any t0 t1 t2 t3 w)
      have I8 := Lib.hid (fun w => impl_SineOf_any t0 t1 j2 j3 w)
      rw [q1, oni_0] at I7
      rw [q2, oni_0, q10] at I8
      obtain ⟨c7, hc7⟩ : ∃ x, cosI t0 t1 t2 t3 = x := ⟨_, rfl⟩
      rw [hc7] at I7 q7 q8 q9
      have hmul : 0 ≤ cv * c7 ∧ cv * c7 ≤ 1000000 * 1000000 := ⟨Int.mul_nonneg (by omega) (by omega), Int.mul_le_mul (a := cv) (b := c7) (c := 1000000) (d := 1000000) (by omega) (by omega) (by omega) (by omega)⟩
      have hw : IntKind.i64.wrap (cv * c7) = cv * c7 := by rw [IntKind.wrap_i64]; omega
      have g1 : ¬ cv < 1 := by omega
      have g2 : ¬ sv < cv := by omega
      have g3 : ¬ sv = 0 := by omega
      have g5 : 1 ≤ sv := by omega
      have g1d : decide (cv < 1) = false := by simp; omega
      have g2d : decide (sv < cv) = false := by simp; omega
      have HG1 := Lib.hid g1d
      have HG2 := Lib.hid g2d
      have r1 : (cv * c7).tmod sv = cv * c7 % sv := Int.tmod_eq_emod_of_nonneg (by omega)
      have r2 : (1 : Int).tmod sv = 1 % sv := Int.tmod_eq_emod_of_nonneg (by omega)
      have HW1 := Lib.hid hw
      have HQ9 := Lib.hid q9
      clear ecv esv et0 et1 et2 et3 ej2 ej3 q1 q2 q3 q4 q5 q6 q7 q8 q10 hc7
      obtain ⟨⟨qA0, qA1, qA2, qA3⟩, ⟨fA0, fA1, fA2, fA3⟩, zA⟩ := HA.out
      obtain ⟨⟨qV0, qV1, qV2, qV3⟩, ⟨fV0, fV1, fV2, fV3⟩, zV⟩ := HV.out
      obtain ⟨⟨qT0, qT1, qT2, qT3⟩, ⟨fT0, fT1, fT2, fT3⟩, zT⟩ := HT.out
      obtain ⟨⟨qJ0, qJ1, qJ2, qJ3⟩, ⟨fJ0, fJ1, fJ2, fJ3⟩, zJ⟩ := HJ.out
      go_wp2_with fail
      go_at_call 43
      refine (I7.out _).mono ?_
      rintro e w78 ⟨rfl, hb⟩
      clear qA0 fA0 qA1 fA1 qA2 fA2 qA3 fA3 zA qV0 fV0 qV1 fV1 qV2 fV2 qV3 fV3 zV qT0 fT0 qT1 fT1 qT2 fT2 qT3 fT3 zT qJ0 fJ0 qJ1 fJ1 qJ2 fJ2 qJ3 fJ3 zJ
      have HA := Lib.hid (HA.out.below hb)
      have HV := Lib.hid (HV.out.below hb)
      have HT := Lib.hid (HT.out.below hb)
      have HJ := Lib.hid (HJ.out.below hb)
      have HB := Lib.hid (below_after hb HB.out)
      clear hb
      obtain ⟨⟨qA0, qA1, qA2, qA3⟩, ⟨fA0, fA1, fA2, fA3⟩, zA⟩ := HA.out
      obtain ⟨⟨qV0, qV1, qV2, qV3⟩, ⟨fV0, fV1, fV2, fV3⟩, zV⟩ := HV.out
      obtain ⟨⟨qT0, qT1, qT2, qT3⟩, ⟨fT0, fT1, fT2, fT3⟩, zT⟩ := HT.out
      obtain ⟨⟨qJ0, qJ1, qJ2, qJ3⟩, ⟨fJ0, fJ1, fJ2, fJ3⟩, zJ⟩ := HJ.out
      go_wp2_with fail
      go_at_call 45
      refine (I8.out _).mono ?_
      rintro e w79 ⟨rfl, hb⟩
      clear qA0 fA0 qA1 fA1 qA2 fA2 qA3 fA3 zA qV0 fV0 qV1 fV1 qV2 fV2 qV3 fV3 zV qT0 fT0 qT1 fT1 qT2 fT2 qT3 fT3 zT qJ0 fJ0 qJ1 fJ1 qJ2 fJ2 qJ3 fJ3 zJ
      have HA := Lib.hid (HA.out.below hb)
      have HV := Lib.hid (HV.out.below hb)
      have HT := Lib.hid (HT.out.below hb)
      have HJ := Lib.hid (HJ.out.below hb)
      have HB := Lib.hid (below_after hb HB.out)
      clear hb
      clear HT HJ
      have HXX : Hid (∀ W, Below w79.heap.size w79 W → Bk4 W GA x0 y0 x1 y1 ∧ Bk4 W GV m0 m1 m2 m3) := fun W hW => ⟨HA.out.below hW, HV.out.below hW⟩
      go_wp2_with fail
      refine wp_region_held_drew (S := fun W => Below w79.heap.size w79 W) (by kernel_rfl) ?_ (fun hHeld => ?_); focus ((try dsimp only); exact (Below.refl _ _).drew)
      have HA := Lib.hid (HA.out.below (Below.drew (Below.refl _ _)))
      have HV := Lib.hid (HV.out.below (Below.drew (Below.refl _ _)))
      have hHeld : Below w79.heap.size w79 _ := hHeld
      obtain ⟨wD79, hwD79⟩ : ∃ wD, w79.drew = wD := ⟨_, rfl⟩
      rw [hwD79] at hHeld HA HV ⊢
      clear hwD79
      (refine wpAnyH_take (i := 0) (v := ?_) rfl (by kernel_rfl) (by kernel_rfl) (by kernel_rfl) (fun _ _ _ h => h) (Or.inl ⟨rfl, ?_⟩) (by assumption) ?_; rotate_left; focus (intro W hSw; (try dsimp only at hSw); have hxx := HXX.out _ hSw; obtain ⟨hxA, hxV⟩ := hxx; have g1d := HG1.out; have g2d := HG2.out; have hwx := HW1.out; have q9x := HQ9.out; obtain ⟨⟨iA0, iA1, iA2, iA3⟩, _, _⟩ := hxA; obtain ⟨⟨iV0, iV1, iV2, iV3⟩, _, _⟩ := hxV; go_simp; try (with_reducible rfl))); (try simp only [Act.put, List.getElem_toArray, List.getElem_cons_succ, List.getElem_cons_zero, List.setIfInBounds_toArray, List.set_cons_zero, List.set_cons_succ])
      (refine wpAnyH_take (i := 1) (v := ?_) rfl (by kernel_rfl) (by kernel_rfl) (by kernel_rfl) (fun _ _ _ h => h) (Or.inl ⟨rfl, ?_⟩) (by assumption) ?_; rotate_left; focus (intro W hSw; (try dsimp only at hSw); have hxx := HXX.out _ hSw; obtain ⟨hxA, hxV⟩ := hxx; have g1d := HG1.out; have g2d := HG2.out; have hwx := HW1.out; have q9x := HQ9.out; obtain ⟨⟨iA0, iA1, iA2, iA3⟩, _, _⟩ := hxA; obtain ⟨⟨iV0, iV1, iV2, iV3⟩, _, _⟩ := hxV; go_simp; try (with_reducible rfl))); (try simp only [Act.put, List.getElem_toArray, List.getElem_cons_succ, List.getElem_cons_zero, List.setIfInBounds_toArray, List.set_cons_zero, List.set_cons_succ])
      (refine wpAnyH_take (i := 2) (v := ?_) rfl (by kernel_rfl) (by kernel_rfl) (by kernel_rfl) (fun _ _ _ h => h) (Or.inl ⟨rfl, ?_⟩) (by assumption) ?_; rotate_left; focus (intro W hSw; (try dsimp only at hSw); have hxx := HXX.out _ hSw; obtain ⟨hxA, hxV⟩ := hxx; have g1d := HG1.out; have g2d := HG2.out; have hwx := HW1.out; have q9x := HQ9.out; obtain ⟨⟨iA0, iA1, iA2, iA3⟩, _, _⟩ := hxA; obtain ⟨⟨iV0, iV1, iV2, iV3⟩, _, _⟩ := hxV; go_simp; try (with_reducible rfl))); (try simp only [Act.put, List.getElem_toArray, List.getElem_cons_succ, List.getElem_cons_zero, List.setIfInBounds_toArray, List.set_cons_zero, List.set_cons_succ])
      (refine wpAnyH_take (i := 3) (v := ?_) rfl (by kernel_rfl) (by kernel_rfl) (by kernel_rfl) (fun _ _ _ h => h) (Or.inl ⟨rfl, ?_⟩) (by assumption) ?_; rotate_left; focus (intro W hSw; (try dsimp only at hSw); have hxx := HXX.out _ hSw; obtain ⟨hxA, hxV⟩ := hxx; have g1d := HG1.out; have g2d := HG2.out; have hwx := HW1.out; have q9x := HQ9.out; obtain ⟨⟨iA0, iA1, iA2, iA3⟩, _, _⟩ := hxA; obtain ⟨⟨iV0, iV1, iV2, iV3⟩, _, _⟩ := hxV; go_simp; try (with_reducible rfl))); (try simp only [Act.put, List.getElem_toArray, List.getElem_cons_succ, List.getElem_cons_zero, List.setIfInBounds_toArray, List.set_cons_zero, List.set_cons_succ])
      (refine wpAnyH_take (i := 4) (v := ?_) rfl (by kernel_rfl) (by kernel_rfl) (by kernel_rfl) (fun _ _ _ h => h) (Or.inl ⟨rfl, ?_⟩) (by assumption) ?_; rotate_left; focus (intro W hSw; (try dsimp only at hSw); have hxx := HXX.out _ hSw; obtain ⟨hxA, hxV⟩ := hxx; have g1d := HG1.out; have g2d := HG2.out; have hwx := HW1.out; have q9x := HQ9.out; obtain ⟨⟨iA0, iA1, iA2, iA3⟩, _, _⟩ := hxA; obtain ⟨⟨iV0, iV1, iV2, iV3⟩, _, _⟩ := hxV; go_simp; try (with_reducible rfl))); (try simp only [Act.put, List.getElem_toArray, List.getElem_cons_succ, List.getElem_cons_zero, List.setIfInBounds_toArray, List.set_cons_zero, List.set_cons_succ])
      (refine wpAnyH_take (i := 5) (v := ?_) rfl (by kernel_rfl) (by kernel_rfl) (by kernel_rfl) (fun _ _ _ h => h) (Or.inl ⟨rfl, ?_⟩) (by assumption) ?_; rotate_left; focus (intro W hSw; (try dsimp only at hSw); have hxx := HXX.out _ hSw; obtain ⟨hxA, hxV⟩ := hxx; have g1d := HG1.out; have g2d := HG2.out; have hwx := HW1.out; have q9x := HQ9.out; obtain ⟨⟨iA0, iA1, iA2, iA3⟩, _, _⟩ := hxA; obtain ⟨⟨iV0, iV1, iV2, iV3⟩, _, _⟩ := hxV; go_simp; try (with_reducible rfl))); (try simp only [Act.put, List.getElem_toArray, List.getElem_cons_succ, List.getElem_cons_zero, List.setIfInBounds_toArray, List.set_cons_zero, List.set_cons_succ])
      (refine wpAnyH_take (i := 6) (v := ?_) rfl (by kernel_rfl) (by kernel_rfl) (by kernel_rfl) (fun _ _ _ h => h) (Or.inl ⟨rfl, ?_⟩) (by assumption) ?_; rotate_left; focus (intro W hSw; (try dsimp only at hSw); have hxx := HXX.out _ hSw; obtain ⟨hxA, hxV⟩ := hxx; have g1d := HG1.out; have g2d := HG2.out; have hwx := HW1.out; have q9x := HQ9.out; obtain ⟨⟨iA0, iA1, iA2, iA3⟩, _, _⟩ := hxA; obtain ⟨⟨iV0, iV1, iV2, iV3⟩, _, _⟩ := hxV; go_simp; try (with_reducible rfl))); (try simp only [Act.put, List.getElem_toArray, List.getElem_cons_succ, List.getElem_cons_zero, List.setIfInBounds_toArray, List.set_cons_zero, List.set_cons_succ])
      (refine wpAnyH_take (i := 7) (v := ?_) rfl (by kernel_rfl) (by kernel_rfl) (by kernel_rfl) (fun _ _ _ h => h) (Or.inl ⟨rfl, ?_⟩) (by assumption) ?_; rotate_left; focus (intro W hSw; (try dsimp only at hSw); have hxx := HXX.out _ hSw; obtain ⟨hxA, hxV⟩ := hxx; have g1d := HG1.out; have g2d := HG2.out; have hwx := HW1.out; have q9x := HQ9.out; obtain ⟨⟨iA0, iA1, iA2, iA3⟩, _, _⟩ := hxA; obtain ⟨⟨iV0, iV1, iV2, iV3⟩, _, _⟩ := hxV; go_simp; try (with_reducible rfl))); (try simp only [Act.put, List.getElem_toArray, List.getElem_cons_succ, List.getElem_cons_zero, List.setIfInBounds_toArray, List.set_cons_zero, List.set_cons_succ])
      (refine wpAnyH_take (i := 8) (v := ?_) rfl (by kernel_rfl) (by kernel_rfl) (by kernel_rfl) (fun _ _ _ h => h) (Or.inl ⟨rfl, ?_⟩) (by assumption) ?_; rotate_left; focus (intro W hSw; (try dsimp only at hSw); have hxx := HXX.out _ hSw; obtain ⟨hxA, hxV⟩ := hxx; have g1d := HG1.out; have g2d := HG2.out; have hwx := HW1.out; have q9x := HQ9.out; obtain ⟨⟨iA0, iA1, iA2, iA3⟩, _, _⟩ := hxA; obtain ⟨⟨iV0, iV1, iV2, iV3⟩, _, _⟩ := hxV; go_simp; try (with_reducible rfl))); (try simp only [Act.put, List.getElem_toArray, List.getElem_cons_succ, List.getElem_cons_zero, List.setIfInBounds_toArray, List.set_cons_zero, List.set_cons_succ])
      (refine wpAnyH_take (i := 9) (v := ?_) rfl (by kernel_rfl) (by kernel_rfl) (by kernel_rfl) (fun _ _ _ h => h) (Or.inl ⟨rfl, ?_⟩) (by assumption) ?_; rotate_left; focus (intro W hSw; (try dsimp only at hSw); have hxx := HXX.out _ hSw; obtain ⟨hxA, hxV⟩ := hxx; have g1d := HG1.out; have g2d := HG2.out; have hwx := HW1.out; have q9x := HQ9.out; obtain ⟨⟨iA0, iA1, iA2, iA3⟩, _, _⟩ := hxA; obtain ⟨⟨iV0, iV1, iV2, iV3⟩, _, _⟩ := hxV; go_simp; try (with_reducible rfl))); (try simp only [Act.put, List.getElem_toArray, List.getElem_cons_succ, List.getElem_cons_zero, List.setIfInBounds_toArray, List.set_cons_zero, List.set_cons_succ])
      (refine wpAnyH_take (i := 10) (v := ?_) rfl (by kernel_rfl) (by kernel_rfl) (by kernel_rfl) (fun _ _ _ h => h) (Or.inl ⟨rfl, ?_⟩) (by assumption) ?_; rotate_left; focus (intro W hSw; (try dsimp only at hSw); have hxx := HXX.out _ hSw; obtain ⟨hxA, hxV⟩ := hxx; have g1d := HG1.out; have g2d := HG2.out; have hwx := HW1.out; have q9x := HQ9.out; obtain ⟨⟨iA0, iA1, iA2, iA3⟩, _, _⟩ := hxA; obtain ⟨⟨iV0, iV1, iV2, iV3⟩, _, _⟩ := hxV; go_simp; try (with_reducible rfl))); (try simp only [Act.put, List.getElem_toArray, List.getElem_cons_succ, List.getElem_cons_zero, List.setIfInBounds_toArray, List.set_cons_zero, List.set_cons_succ])
      (refine wpAnyH_take (i := 11) (v := ?_) rfl (by kernel_rfl) (by kernel_rfl) (by kernel_rfl) (fun _ _ _ h => h) (Or.inl ⟨rfl, ?_⟩) (by assumption) ?_; rotate_left; focus (intro W hSw; (try dsimp only at hSw); have hxx := HXX.out _ hSw; obtain ⟨hxA, hxV⟩ := hxx; have g1d := HG1.out; have g2d := HG2.out; have hwx := HW1.out; have q9x := HQ9.out; obtain ⟨⟨iA0, iA1, iA2, iA3⟩, _, _⟩ := hxA; obtain ⟨⟨iV0, iV1, iV2, iV3⟩, _, _⟩ := hxV; go_simp; try (with_reducible rfl))); (try simp only [Act.put, List.getElem_toArray, List.getElem_cons_succ, List.getElem_cons_zero, List.setIfInBounds_toArray, List.set_cons_zero, List.set_cons_succ])
      (refine wpAnyH_take (i := 12) (v := ?_) rfl (by kernel_rfl) (by kernel_rfl) (by kernel_rfl) (fun _ _ _ h => h) (Or.inl ⟨rfl, ?_⟩) (by assumption) ?_; rotate_left; focus (intro W hSw; (try dsimp only at hSw); have hxx := HXX.out _ hSw; obtain ⟨hxA, hxV⟩ := hxx; have g1d := HG1.out; have g2d := HG2.out; have hwx := HW1.out; have q9x := HQ9.out; obtain ⟨⟨iA0, iA1, iA2, iA3⟩, _, _⟩ := hxA; obtain ⟨⟨iV0, iV1, iV2, iV3⟩, _, _⟩ := hxV; go_simp; try (with_reducible rfl))); (try simp only [Act.put, List.getElem_toArray, List.getElem_cons_succ, List.getElem_cons_zero, List.setIfInBounds_toArray, List.set_cons_zero, List.set_cons_succ])
      (refine wpAnyH_take (i := 13) (v := ?_) rfl (by kernel_rfl) (by kernel_rfl) (by kernel_rfl) (fun _ _ _ h => h) (Or.inl ⟨rfl, ?_⟩) (by assumption) ?_; rotate_left; focus (intro W hSw; (try dsimp only at hSw); have hxx := HXX.out _ hSw; obtain ⟨hxA, hxV⟩ := hxx; have g1d := HG1.out; have g2d := HG2.out; have hwx := HW1.out; have q9x := HQ9.out; obtain ⟨⟨iA0, iA1, iA2, iA3⟩, _, _⟩ := hxA; obtain ⟨⟨iV0, iV1, iV2, iV3⟩, _, _⟩ := hxV; go_simp; try (with_reducible rfl))); (try simp only [Act.put, List.getElem_toArray, List.getElem_cons_succ, List.getElem_cons_zero, List.setIfInBounds_toArray, List.set_cons_zero, List.set_cons_succ])
      (refine wpAnyH_take (i := 14) (v := ?_) rfl (by kernel_rfl) (by kernel_rfl) (by kernel_rfl) (fun _ _ _ h => h) (Or.inl ⟨rfl, ?_⟩) (by assumption) ?_; rotate_left; focus (intro W hSw; (try dsimp only at hSw); have hxx := HXX.out _ hSw; obtain ⟨hxA, hxV⟩ := hxx; have g1d := HG1.out; have g2d := HG2.out; have hwx := HW1.out; have q9x := HQ9.out; obtain ⟨⟨iA0, iA1, iA2, iA3⟩, _, _⟩ := hxA; obtain ⟨⟨iV0, iV1, iV2, iV3⟩, _, _⟩ := hxV; go_simp; try (with_reducible rfl))); (try simp only [Act.put, List.getElem_toArray, List.getElem_cons_succ, List.getElem_cons_zero, List.setIfInBounds_toArray, List.set_cons_zero, List.set_cons_succ])
      (refine wpAnyH_take (i := 15) (v := ?_) rfl (by kernel_rfl) (by kernel_rfl) (by kernel_rfl) (fun _ _ _ h => h) (Or.inl ⟨rfl, ?_⟩) (by assumption) ?_; rotate_left; focus (intro W hSw; (try dsimp only at hSw); have hxx := HXX.out _ hSw; obtain ⟨hxA, hxV⟩ := hxx; have g1d := HG1.out; have g2d := HG2.out; have hwx := HW1.out; have q9x := HQ9.out; obtain ⟨⟨iA0, iA1, iA2, iA3⟩, _, _⟩ := hxA; obtain ⟨⟨iV0, iV1, iV2, iV3⟩, _, _⟩ := hxV; go_simp; try (with_reducible rfl))); (try simp only [Act.put, List.getElem_toArray, List.getElem_cons_succ, List.getElem_cons_zero, List.setIfInBounds_toArray, List.set_cons_zero, List.set_cons_succ])
      (refine wpAnyH_take (i := 16) (v := ?_) rfl (by kernel_rfl) (by kernel_rfl) (by kernel_rfl) (fun _ _ _ h => h) (Or.inl ⟨rfl, ?_⟩) (by assumption) ?_; rotate_left; focus (intro W hSw; (try dsimp only at hSw); have hxx := HXX.out _ hSw; obtain ⟨hxA, hxV⟩ := hxx; have g1d := HG1.out; have g2d := HG2.out; have hwx := HW1.out; have q9x := HQ9.out; obtain ⟨⟨iA0, iA1, iA2, iA3⟩, _, _⟩ := hxA; obtain ⟨⟨iV0, iV1, iV2, iV3⟩, _, _⟩ := hxV; go_simp; try (with_reducible rfl))); (try simp only [Act.put, List.getElem_toArray, List.getElem_cons_succ, List.getElem_cons_zero, List.setIfInBounds_toArray, List.set_cons_zero, List.set_cons_succ])
      (refine wpAnyH_take (i := 17) (v := ?_) rfl (by kernel_rfl) (by kernel_rfl) (by kernel_rfl) (fun _ _ _ h => h) (Or.inl ⟨rfl, ?_⟩) (by assumption) ?_; rotate_left; focus (intro W hSw; (try dsimp only at hSw); have hxx := HXX.out _ hSw; obtain ⟨hxA, hxV⟩ := hxx; have g1d := HG1.out; have g2d := HG2.out; have hwx := HW1.out; have q9x := HQ9.out; obtain ⟨⟨iA0, iA1, iA2, iA3⟩, _, _⟩ := hxA; obtain ⟨⟨iV0, iV1, iV2, iV3⟩, _, _⟩ := hxV; go_simp; try (with_reducible rfl))); (try simp only [Act.put, List.getElem_toArray, List.getElem_cons_succ, List.getElem_cons_zero, List.setIfInBounds_toArray, List.set_cons_zero, List.set_cons_succ])
      (refine wpAnyH_take (i := 18) (v := ?_) rfl (by kernel_rfl) (by kernel_rfl) (by kernel_rfl) (fun _ _ _ h => h) (Or.inl ⟨rfl, ?_⟩) (by assumption) ?_; rotate_left; focus (intro W hSw; (try dsimp only at hSw); have hxx := HXX.out _ hSw; obtain ⟨hxA, hxV⟩ := hxx; have g1d := HG1.out; have g2d := HG2.out; have hwx := HW1.out; have q9x := HQ9.out; obtain ⟨⟨iA0, iA1, iA2, iA3⟩, _, _⟩ := hxA; obtain ⟨⟨iV0, iV1, iV2, iV3⟩, _, _⟩ := hxV; go_simp; try (with_reducible rfl))); (try simp only [Act.put, List.getElem_toArray, List.getElem_cons_succ, List.getElem_cons_zero, List.setIfInBounds_toArray, List.set_cons_zero, List.set_cons_succ])
      (refine wpAnyH_take (i := 19) (v := ?_) rfl (by kernel_rfl) (by kernel_rfl) (by kernel_rfl) (fun _ _ _ h => h) (Or.inl ⟨rfl, ?_⟩) (by assumption) ?_; rotate_left; focus (intro W hSw; (try dsimp only at hSw); have hxx := HXX.out _ hSw; obtain ⟨hxA, hxV⟩ := hxx; have g1d := HG1.out; have g2d := HG2.out; have hwx := HW1.out; have q9x := HQ9.out; obtain ⟨⟨iA0, iA1, iA2, iA3⟩, _, _⟩ := hxA; obtain ⟨⟨iV0, iV1, iV2, iV3⟩, _, _⟩ := hxV; go_simp; try (with_reducible rfl))); (try simp only [Act.put, List.getElem_toArray, List.getElem_cons_succ, List.getElem_cons_zero, List.setIfInBounds_toArray, List.set_cons_zero, List.set_cons_succ])
      (refine wpAnyH_take (i := 20) (v := ?_) rfl (by kernel_rfl) (by kernel_rfl) (by kernel_rfl) (fun _ _ _ h => h) (Or.inl ⟨rfl, ?_⟩) (by assumption) ?_; rotate_left; focus (intro W hSw; (try dsimp only at hSw); have hxx := HXX.out _ hSw; obtain ⟨hxA, hxV⟩ := hxx; have g1d := HG1.out; have g2d := HG2.out; have hwx := HW1.out; have q9x := HQ9.out; obtain ⟨⟨iA0, iA1, iA2, iA3⟩, _, _⟩ := hxA; obtain ⟨⟨iV0, iV1, iV2, iV3⟩, _, _⟩ := hxV; go_simp; try (with_reducible rfl))); (try simp only [Act.put, List.getElem_toArray, List.getElem_cons_succ, List.getElem_cons_zero, List.setIfInBounds_toArray, List.set_cons_zero, List.set_cons_succ])
      (refine wpAnyH_take (i := 21) (v := ?_) rfl (by kernel_rfl) (by kernel_rfl) (by kernel_rfl) (fun _ _ _ h => h) (Or.inl ⟨rfl, ?_⟩) (by assumption) ?_; rotate_left; focus (intro W hSw; (try dsimp only at hSw); have hxx := HXX.out _ hSw; obtain ⟨hxA, hxV⟩ := hxx; have g1d := HG1.out; have g2d := HG2.out; have hwx := HW1.out; have q9x := HQ9.out; obtain ⟨⟨iA0, iA1, iA2, iA3⟩, _, _⟩ := hxA; obtain ⟨⟨iV0, iV1, iV2, iV3⟩, _, _⟩ := hxV; go_simp; try (with_reducible rfl))); (try simp only [Act.put, List.getElem_toArray, List.getElem_cons_succ, List.getElem_cons_zero, List.setIfInBounds_toArray, List.set_cons_zero, List.set_cons_succ])
      (refine wpAnyH_take (i := 22) (v := ?_) rfl (by kernel_rfl) (by kernel_rfl) (by kernel_rfl) (fun _ _ _ h => h) (Or.inl ⟨rfl, ?_⟩) (by assumption) ?_; rotate_left; focus (intro W hSw; (try dsimp only at hSw); have hxx := HXX.out _ hSw; obtain ⟨hxA, hxV⟩ := hxx; have g1d := HG1.out; have g2d := HG2.out; have hwx := HW1.out; have q9x := HQ9.out; obtain ⟨⟨iA0, iA1, iA2, iA3⟩, _, _⟩ := hxA; obtain ⟨⟨iV0, iV1, iV2, iV3⟩, _, _⟩ := hxV; go_simp; try (with_reducible rfl))); (try simp only [Act.put, List.getElem_toArray, List.getElem_cons_succ, List.getElem_cons_zero, List.setIfInBounds_toArray, List.set_cons_zero, List.set_cons_succ])
      (refine wpAnyH_take (i := 23) (v := ?_) rfl (by kernel_rfl) (by kernel_rfl) (by kernel_rfl) (fun _ _ _ h => h) (Or.inl ⟨rfl, ?_⟩) (by assumption) ?_; rotate_left; focus (intro W hSw; (try dsimp only at hSw); have hxx := HXX.out _ hSw; obtain ⟨hxA, hxV⟩ := hxx; have g1d := HG1.out; have g2d := HG2.out; have hwx := HW1.out; have q9x := HQ9.out; obtain ⟨⟨iA0, iA1, iA2, iA3⟩, _, _⟩ := hxA; obtain ⟨⟨iV0, iV1, iV2, iV3⟩, _, _⟩ := hxV; go_simp; try (with_reducible rfl))); (try simp only [Act.put, List.getElem_toArray, List.getElem_cons_succ, List.getElem_cons_zero, List.setIfInBounds_toArray, List.set_cons_zero, List.set_cons_succ])
      (refine wpAnyH_take (i := 24) (v := ?_) rfl (by kernel_rfl) (by kernel_rfl) (by kernel_rfl) (fun _ _ _ h => h) (Or.inl ⟨rfl, ?_⟩) (by assumption) ?_; rotate_left; focus (intro W hSw; (try dsimp only at hSw); have hxx := HXX.out _ hSw; obtain ⟨hxA, hxV⟩ := hxx; have g1d := HG1.out; have g2d := HG2.out; have hwx := HW1.out; have q9x := HQ9.out; obtain ⟨⟨iA0, iA1, iA2, iA3⟩, _, _⟩ := hxA; obtain ⟨⟨iV0, iV1, iV2, iV3⟩, _, _⟩ := hxV; go_simp; try (with_reducible rfl))); (try simp only [Act.put, List.getElem_toArray, List.getElem_cons_succ, List.getElem_cons_zero, List.setIfInBounds_toArray, List.set_cons_zero, List.set_cons_succ])
      (refine wpAnyH_take (i := 25) (v := ?_) rfl (by kernel_rfl) (by kernel_rfl) (by kernel_rfl) (fun _ _ _ h => h) (Or.inl ⟨rfl, ?_⟩) (by assumption) ?_; rotate_left; focus (intro W hSw; (try dsimp only at hSw); have hxx := HXX.out _ hSw; obtain ⟨hxA, hxV⟩ := hxx; have g1d := HG1.out; have g2d := HG2.out; have hwx := HW1.out; have q9x := HQ9.out; obtain ⟨⟨iA0, iA1, iA2, iA3⟩, _, _⟩ := hxA; obtain ⟨⟨iV0, iV1, iV2, iV3⟩, _, _⟩ := hxV; go_simp; try (with_reducible rfl))); (try simp only [Act.put, List.getElem_toArray, List.getElem_cons_succ, List.getElem_cons_zero, List.setIfInBounds_toArray, List.set_cons_zero, List.set_cons_succ])
      (refine wpAnyH_take (i := 26) (v := ?_) rfl (by kernel_rfl) (by kernel_rfl) (by kernel_rfl) (fun _ _ _ h => h) (Or.inl ⟨rfl, ?_⟩) (by assumption) ?_; rotate_left; focus (intro W hSw; (try dsimp only at hSw); have hxx := HXX.out _ hSw; obtain ⟨hxA, hxV⟩ := hxx; have g1d := HG1.out; have g2d := HG2.out; have hwx := HW1.out; have q9x := HQ9.out; obtain ⟨⟨iA0, iA1, iA2, iA3⟩, _, _⟩ := hxA; obtain ⟨⟨iV0, iV1, iV2, iV3⟩, _, _⟩ := hxV; go_simp; try (with_reducible rfl))); (try simp only [Act.put, List.getElem_toArray, List.getElem_cons_succ, List.getElem_cons_zero, List.setIfInBounds_toArray, List.set_cons_zero, List.set_cons_succ])
      (refine wpAnyH_take (i := 27) (v := ?_) rfl (by kernel_rfl) (by kernel_rfl) (by kernel_rfl) (fun _ _ _ h => h) (Or.inl ⟨rfl, ?_⟩) (by assumption) ?_; rotate_left; focus (intro W hSw; (try dsimp only at hSw); have hxx := HXX.out _ hSw; obtain ⟨hxA, hxV⟩ := hxx; have g1d := HG1.out; have g2d := HG2.out; have hwx := HW1.out; have q9x := HQ9.out; obtain ⟨⟨iA0, iA1, iA2, iA3⟩, _, _⟩ := hxA; obtain ⟨⟨iV0, iV1, iV2, iV3⟩, _, _⟩ := hxV; go_simp; try (with_reducible rfl))); (try simp only [Act.put, List.getElem_toArray, List.getElem_cons_succ, List.getElem_cons_zero, List.setIfInBounds_toArray, List.set_cons_zero, List.set_cons_succ])
      (refine wpAnyH_take (i := 28) (v := ?_) rfl (by kernel_rfl) (by kernel_rfl) (by kernel_rfl) (fun _ _ _ h => h) (Or.inl ⟨rfl, ?_⟩) (by assumption) ?_; rotate_left; focus (intro W hSw; (try dsimp only at hSw); have hxx := HXX.out _ hSw; obtain ⟨hxA, hxV⟩ := hxx; have g1d := HG1.out; have g2d := HG2.out; have hwx := HW1.out; have q9x := HQ9.out; obtain ⟨⟨iA0, iA1, iA2, iA3⟩, _, _⟩ := hxA; obtain ⟨⟨iV0, iV1, iV2, iV3⟩, _, _⟩ := hxV; go_simp; try (with_reducible rfl))); (try simp only [Act.put, List.getElem_toArray, List.getElem_cons_succ, List.getElem_cons_zero, List.setIfInBounds_toArray, List.set_cons_zero, List.set_cons_succ])
      (refine wpAnyH_take (i := 29) (v := ?_) rfl (by kernel_rfl) (by kernel_rfl) (by kernel_rfl) (fun _ _ _ h => h) (Or.inl ⟨rfl, ?_⟩) (by assumption) ?_; rotate_left; focus (intro W hSw; (try dsimp only at hSw); have hxx := HXX.out _ hSw; obtain ⟨hxA, hxV⟩ := hxx; have g1d := HG1.out; have g2d := HG2.out; have hwx := HW1.out; have q9x := HQ9.out; obtain ⟨⟨iA0, iA1, iA2, iA3⟩, _, _⟩ := hxA; obtain ⟨⟨iV0, iV1, iV2, iV3⟩, _, _⟩ := hxV; go_simp; try (with_reducible rfl))); (try simp only [Act.put, List.getElem_toArray, List.getElem_cons_succ, List.getElem_cons_zero, List.setIfInBounds_toArray, List.set_cons_zero, List.set_cons_succ])
      (refine wpAnyH_take (i := 30) (v := ?_) rfl (by kernel_rfl) (by kernel_rfl) (by kernel_rfl) (fun _ _ _ h => h) (Or.inl ⟨rfl, ?_⟩) (by assumption) ?_; rotate_left; focus (intro W hSw; (try dsimp only at hSw); have hxx := HXX.out _ hSw; obtain ⟨hxA, hxV⟩ := hxx; have g1d := HG1.out; have g2d := HG2.out; have hwx := HW1.out; have q9x := HQ9.out; obtain ⟨⟨iA0, iA1, iA2, iA3⟩, _, _⟩ := hxA; obtain ⟨⟨iV0, iV1, iV2, iV3⟩, _, _⟩ := hxV; go_simp; try (with_reducible rfl))); (try simp only [Act.put, List.getElem_toArray, List.getElem_cons_succ, List.getElem_cons_zero, List.setIfInBounds_toArray, List.set_cons_zero, List.set_cons_succ])
      (refine wpAnyH_take (i := 31) (v := ?_) rfl (by kernel_rfl) (by kernel_rfl) (by kernel_rfl) (fun _ _ _ h => h) (Or.inl ⟨rfl, ?_⟩) (by assumption) ?_; rotate_left; focus (intro W hSw; (try dsimp only at hSw); have hxx := HXX.out _ hSw; obtain ⟨hxA, hxV⟩ := hxx; have g1d := HG1.out; have g2d := HG2.out; have hwx := HW1.out; have q9x := HQ9.out; obtain ⟨⟨iA0, iA1, iA2, iA3⟩, _, _⟩ := hxA; obtain ⟨⟨iV0, iV1, iV2, iV3⟩, _, _⟩ := hxV; go_simp; try (with_reducible rfl))); (try simp only [Act.put, List.getElem_toArray, List.getElem_cons_succ, List.getElem_cons_zero, List.setIfInBounds_toArray, List.set_cons_zero, List.set_cons_succ])
      (refine wpAnyH_take (i := 32) (v := ?_) rfl (by kernel_rfl) (by kernel_rfl) (by kernel_rfl) (fun _ _ _ h => h) (Or.inl ⟨rfl, ?_⟩) (by assumption) ?_; rotate_left; focus (intro W hSw; (try dsimp only at hSw); have hxx := HXX.out _ hSw; obtain ⟨hxA, hxV⟩ := hxx; have g1d := HG1.out; have g2d := HG2.out; have hwx := HW1.out; have q9x := HQ9.out; obtain ⟨⟨iA0, iA1, iA2, iA3⟩, _, _⟩ := hxA; obtain ⟨⟨iV0, iV1, iV2, iV3⟩, _, _⟩ := hxV; go_simp; try (with_reducible rfl))); (try simp only [Act.put, List.getElem_toArray, List.getElem_cons_succ, List.getElem_cons_zero, List.setIfInBounds_toArray, List.set_cons_zero, List.set_cons_succ])
      (refine wpAnyH_take (i := 33) (v := ?_) rfl (by kernel_rfl) (by kernel_rfl) (by kernel_rfl) (fun _ _ _ h => h) (Or.inl ⟨rfl, ?_⟩) (by assumption) ?_; rotate_left; focus (intro W hSw; (try dsimp only at hSw); have hxx := HXX.out _ hSw; obtain ⟨hxA, hxV⟩ := hxx; have g1d := HG1.out; have g2d := HG2.out; have hwx := HW1.out; have q9x := HQ9.out; obtain ⟨⟨iA0, iA1, iA2, iA3⟩, _, _⟩ := hxA; obtain ⟨⟨iV0, iV1, iV2, iV3⟩, _, _⟩ := hxV; go_simp; try (with_reducible rfl))); (try simp only [Act.put, List.getElem_toArray, List.getElem_cons_succ, List.getElem_cons_zero, List.setIfInBounds_toArray, List.set_cons_zero, List.set_cons_succ])
      refine wpAnyH_done (by kernel_rfl) ?_ _
      have HB := Lib.hid (HB.out.trans (hHeld.mono HB.out.size))
      clear hHeld HXX
      clear q9 hw g1 g2 g3 g5 r1 r2 hmul
      have hcx : c1 = 0 ∨ c1 ≠ 0 := by omega
      clear hcx
      by_cases hc1 : c1 = 0
      · skip
        subst hc1
        have e0 := HEm0.out
        have e1 := HEm1.out
        have e2 := HEm2.out
        have e3 := HEm3.out
        have ec := HEc1.out
        rw [ec] at e0 e1 e2 e3
        rw [oni_0] at e0 e1 e2 e3
        obtain ⟨hq1, hq2⟩ := moved_eq ec
        rw [e0, e1, e2, e3] at hq1 hq2
        have IE := Lib.hid (fun w => impl_AreEqualCorners_any x0 y0 x1 y1 m0 m1 m2 m3 w)
        rw [hq1, hq2] at IE
        clear e0 e1 e2 e3 ec hq1 hq2
        obtain ⟨⟨qA0, qA1, qA2, qA3⟩, ⟨fA0, fA1, fA2, fA3⟩, zA⟩ := HA.out
        obtain ⟨⟨qV0, qV1, qV2, qV3⟩, ⟨fV0, fV1, fV2, fV3⟩, zV⟩ := HV.out
        go_wp2_with fail
        go_at_call 54
        refine (IE.out _).mono ?_
        rintro e w130 ⟨rfl, hb⟩
        clear qA0 fA0 qA1 fA1 qA2 fA2 qA3 fA3 zA qV0 fV0 qV1 fV1 qV2 fV2 qV3 fV3 zV
        have HA := Lib.hid (HA.out.below hb)
        have HV := Lib.hid (HV.out.below hb)
        have HB := Lib.hid (below_after hb HB.out)
        clear hb
        obtain ⟨⟨qA0, qA1, qA2, qA3⟩, ⟨fA0, fA1, fA2, fA3⟩, zA⟩ := HA.out
        obtain ⟨⟨qV0, qV1, qV2, qV3⟩, ⟨fV0, fV1, fV2, fV3⟩, zV⟩ := HV.out
        go_wp2_with fail
        go_ret
        have hb := HB.out
        exact ⟨by first | rfl | simp, hb⟩
      · skip
        have hne : (c1 != 0) = true := by simp [hc1]
        have e0 : m0 = 0 := by have := HEm0.out; rw [HEc1.out] at this; unfold oni at this; rw [if_neg hc1] at this; exact this.symm
        have e1 : m1 = 0 := by have := HEm1.out; rw [HEc1.out] at this; unfold oni at this; rw [if_neg hc1] at this; exact this.symm
        have e2 : m2 = 0 := by have := HEm2.out; rw [HEc1.out] at this; unfold oni at this; rw [if_neg hc1] at this; exact this.symm
        have e3 : m3 = 0 := by have := HEm3.out; rw [HEc1.out] at this; unfold oni at this; rw [if_neg hc1] at this; exact this.symm
        clear HEm0 HEm1 HEm2 HEm3
        subst e0 e1 e2 e3
        obtain ⟨⟨qA0, qA1, qA2, qA3⟩, ⟨fA0, fA1, fA2, fA3⟩, zA⟩ := HA.out
        obtain ⟨⟨qV0, qV1, qV2, qV3⟩, ⟨fV0, fV1, fV2, fV3⟩, zV⟩ := HV.out
        go_wp2_with fail
        go_ret
        have hb := HB.out
        exact ⟨by first | rfl | simp, hb⟩
    · skip
      have hne2 : (c2 == 0) = false := by simp [hc2]
      clear HT HJ
      have hcx : c1 = 0 ∨ c1 ≠ 0 := by omega
      clear hcx
      by_cases hc1 : c1 = 0
      · skip
        subst hc1
        have e0 := HEm0.out
        have e1 := HEm1.out
        have e2 := HEm2.out
        have e3 := HEm3.out
        have ec := HEc1.out
        rw [ec] at e0 e1 e2 e3
        rw [oni_0] at e0 e1 e2 e3
        obtain ⟨hq1, hq2⟩ := moved_eq ec
        rw [e0, e1, e2, e3] at hq1 hq2
        have IE := Lib.hid (fun w => impl_AreEqualCorners_any x0 y0 x1 y1 m0 m1 m2 m3 w)
        rw [hq1, hq2] at IE
        clear e0 e1 e2 e3 ec hq1 hq2
        obtain ⟨⟨qA0, qA1, qA2, qA3⟩, ⟨fA0, fA1, fA2, fA3⟩, zA⟩ := HA.out
        obtain ⟨⟨qV0, qV1, qV2, qV3⟩, ⟨fV0, fV1, fV2, fV3⟩, zV⟩ := HV.out
        go_wp2_with fail
        go_at_call 54
        refine (IE.out _).mono ?_
        rintro e w78 ⟨rfl, hb⟩
        clear qA0 fA0 qA1 fA1 qA2 fA2 qA3 fA3 zA qV0 fV0 qV1 fV1 qV2 fV2 qV3 fV3 zV
        have HA := Lib.hid (HA.out.below hb)
        have HV := Lib.hid (HV.out.below hb)
        have HB := Lib.hid (below_after hb HB.out)
        clear hb
        obtain ⟨⟨qA0, qA1, qA2, qA3⟩, ⟨fA0, fA1, fA2, fA3⟩, zA⟩ := HA.out
        obtain ⟨⟨qV0, qV1, qV2, qV3⟩, ⟨fV0, fV1, fV2, fV3⟩, zV⟩ := HV.out
        go_wp2_with fail
        go_ret
        have hb := HB.out
        exact ⟨by first | rfl | simp, hb⟩
      · skip
        have hne : (c1 != 0) = true := by simp [hc1]
        have e0 : m0 = 0 := by have := HEm0.out; rw [HEc1.out] at this; unfold oni at this; rw [if_neg hc1] at this; exact this.symm
        have e1 : m1 = 0 := by have := HEm1.out; rw [HEc1.out] at this; unfold oni at this; rw [if_neg hc1] at this; exact this.symm
        have e2 : m2 = 0 := by have := HEm2.out; rw [HEc1.out] at this; unfold oni at this; rw [if_neg hc1] at this; exact this.symm
        have e3 : m3 = 0 := by have := HEm3.out; rw [HEc1.out] at this; unfold oni at this; rw [if_neg hc1] at this; exact this.symm
        clear HEm0 HEm1 HEm2 HEm3
        subst e0 e1 e2 e3
        obtain ⟨⟨qA0, qA1, qA2, qA3⟩, ⟨fA0, fA1, fA2, fA3⟩, zA⟩ := HA.out
        obtain ⟨⟨qV0, qV1, qV2, qV3⟩, ⟨fV0, fV1, fV2, fV3⟩, zV⟩ := HV.out
        go_wp2_with fail
        go_ret
        have hb := HB.out
        exact ⟨by first | rfl | simp, hb⟩
end Go.Proofs.Ytoenlpkphekbnaa
