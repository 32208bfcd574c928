/-
  MatrixOfWord, in the model and in the program (own work).
-/
import Derived.Test.YtohnmogejidpdaaDoorWdX
namespace Go.Proofs.YtohnmogejidpdaaDoor
open Go.ChangeShapes Go.WideShapes Go.ChangeAt Go.RowKit
set_option linter.unusedVariables false
set_option linter.unusedSimpArgs false
set_option maxRecDepth 100000

/-- What both answer. -/
def mwV (l : List UInt8) : Value := if wordOk l = true then wmV (wm l 1 0 0 1) (.int .i64 0) (.int .i64 3) else .tuple #[.agg #[.int .i64 0, .int .i64 0, .int .i64 0, .int .i64 0], .int .i64 2]
theorem wordOk_parts {l : List UInt8} (h : wordOk l = true) : okL l = true ∧ l.length ≤ 200 := by
  simp only [wordOk, Bool.and_eq_true, decide_eq_true_eq] at h
  exact h
theorem letters_bel (l : List UInt8) (w : World) (hl : l.length ≤ 1048576) : Calls Tryd.prog 16 #[.string ⟨l.toArray⟩] w fun e w' => e = .returned (.bool (wordOk l)) ∧ Below w.heap.size w w' := (l06Letters_any l w hl).mono fun e w' ⟨he, hw⟩ => ⟨he, by rw [← hw]; exact Below.refl _ _⟩
set_option maxHeartbeats 6400000 in
theorem impl_MatrixOfWord_ok (l : List UInt8) (w : World) (hl : l.length ≤ 1048576) (hok : okL l = true) (HL : Hid (∀ w, Calls Tryd.prog 18 #[.string ⟨l.toArray⟩] w fun e w' => e = .returned (.bool true) ∧ Below w.heap.size w w')) : Calls Tryd.prog 7 #[.string ⟨l.toArray⟩] w fun e w' => e = .returned (wmV (wm l 1 0 0 1) (.int .i64 0) (.int .i64 3)) ∧ Below w.heap.size w w' := by
  have hsz := bytes_size l
  have HOK := Lib.hid hok
  obtain ⟨W, hW⟩ : ∃ W, wm l 1 0 0 1 = W := ⟨_, rfl⟩
  have HF : Hid (wm (l.drop 0) 1 0 0 1 = W) := hW
  rw [hW]
  clear hW hok
  obtain ⟨GR, hG⟩ : ∃ G, w.heap.size = G := ⟨_, rfl⟩
  have HG := Lib.hid hG
  go_enter Tryd.func7, Tryd.ntmps7
  go_upto_region 1 with fail
  obtain ⟨w0, hw0⟩ : ∃ w0, w0 = (w.alloc (.cells #[.int .i64 0, .int .i64 0, .int .i64 0, .int .i64 0] 24)) := ⟨_, rfl⟩
  rw [← hw0]
  have HR : Hid (Bk4 w0 GR 0 0 0 0) := by
    have h := (bk4_new w 0 0 0 0 24).below (W' := (w.alloc (.cells #[.int .i64 0, .int .i64 0, .int .i64 0, .int .i64 0] 24))) (by (repeat' (first | (with_reducible exact Below.refl _ _) | (with_reducible refine Below.alloc ?_ ?_ _) | (with_reducible refine Below.setCell ?_ ?_ _) | (with_reducible refine Below.drew ?_) | (with_reducible refine below_drewN ?_ _) | (with_reducible assumption) | (with_reducible refine below_after (by with_reducible assumption) ?_) | go_size)))
    (try simp only [World.size_alloc] at h)
    rw [hG] at h
    rw [hw0]; exact h
  have HB : Hid (Below w.heap.size w w0) := by show Below w.heap.size w w0; rw [hw0]; (repeat' (first | (with_reducible exact Below.refl _ _) | (with_reducible refine Below.alloc ?_ ?_ _) | (with_reducible refine Below.setCell ?_ ?_ _) | (with_reducible refine Below.drew ?_) | (with_reducible refine below_drewN ?_ _) | (with_reducible assumption) | (with_reducible refine below_after (by with_reducible assumption) ?_) | go_size))
  clear hw0
  have le_R : w.heap.size ≤ GR := by omega
  obtain ⟨⟨qR0, qR1, qR2, qR3⟩, ⟨fR0, fR1, fR2, fR3⟩, zR⟩ := HR.out
  go_wp2_with fail
  go_at_call 18
  refine (HL.out _).mono ?_
  rintro e w1 ⟨rfl, hb⟩
  clear qR0 fR0 qR1 fR1 qR2 fR2 qR3 fR3 zR
  have HR := Lib.hid (HR.out.below hb)
  have HB := Lib.hid (below_after hb HB.out)
  clear hb
  obtain ⟨⟨qR0, qR1, qR2, qR3⟩, ⟨fR0, fR1, fR2, fR3⟩, zR⟩ := HR.out
  go_wp2_with fail
  go_at_call 19
  refine (unitMatrix_any _).mono ?_
  rintro e w2 ⟨rfl, hb⟩
  clear qR0 fR0 qR1 fR1 qR2 fR2 qR3 fR3 zR
  have HR := Lib.hid (HR.out.below hb)
  have HB := Lib.hid (below_after hb HB.out)
  clear hb
  obtain ⟨⟨qR0, qR1, qR2, qR3⟩, ⟨fR0, fR1, fR2, fR3⟩, zR⟩ := HR.out
  go_upto_region 4 with fail
  obtain ⟨GM, hGM⟩ : ∃ g, w2.heap.size = g := ⟨_, rfl⟩
  obtain ⟨w3, hw3⟩ : ∃ wx, wx = w2.alloc (.cells #[.int .i64 1, .int .i64 0, .int .i64 0, .int .i64 1] 24) := ⟨_, rfl⟩
  rw [← hw3, hGM]
  have HM : Hid (Bk4 w3 GM 1 0 0 1) := by rw [hw3, ← hGM]; exact bk4_new w2 1 0 0 1 _
  have le_M : w.heap.size ≤ GM := by rw [← hGM]; exact HB.out.size
  have ne_M_R : GM ≠ GR := by have := HR.out.2.2; omega
  have ne_R_M : GR ≠ GM := Ne.symm ne_M_R
  clear qR0 fR0 qR1 fR1 qR2 fR2 qR3 fR3 zR
  have HR := Lib.hid (HR.out.below ((Below.refl _ _).alloc (Nat.le_refl _) (.cells #[.int .i64 1, .int .i64 0, .int .i64 0, .int .i64 1] 24)))
  have HB := Lib.hid (Below.alloc HB.out HB.out.size (.cells #[.int .i64 1, .int .i64 0, .int .i64 0, .int .i64 1] 24))
  rw [← hw3] at HR HB
  clear hw3 hGM
  go_wp2_with fail
  go_loopw [15] (fun x wr => ∃ (i : Nat) (a b c d : Int), x = .int .i64 (i : Int) ∧ i ≤ l.length ∧ isMx a b c d = true ∧ wm (l.drop i) a b c d = W ∧ Bk4 wr GR 0 0 0 0 ∧ Bk4 wr GM a b c d ∧ Below w.heap.size w wr) (fun x _ => l.length - (intOf x).toNat)
  case atStart => exact ⟨0, 1, 0, 0, 1, rfl, by omega, by decide, HF.out, HR.out, HM.out, HB.out⟩
  case round =>
    obtain ⟨i, a, b, c, d, rfl, hi, hmx, hwm, hR, hM, hbel⟩ := hrel
    clear HR HM HB
    have HR := Lib.hid hR
    have HM := Lib.hid hM
    have HB := Lib.hid hbel
    have HW := Lib.hid hwm
    have HMX := Lib.hid hmx
    clear hR hM hbel hwm hmx
    by_cases hil : i < l.length
    · skip
      have hlt : decide ((i : Int) < (l.length : Int)) = true := by simp; omega
      obtain ⟨q, hq⟩ : ∃ q, l[i] = q := ⟨_, rfl⟩
      have hidx := at_byte l i q hil hq
      have HI : Hid (∀ h : i < l.length, l[i] = q) := fun _ => hq
      have hlet : q = 76 ∨ q = 82 := by have := okL_at HOK.out i hil; rwa [hq] at this
      clear hq
      have j0 : (0 : Int) ≤ (i : Int) := by omega
      have j1 : (i : Int) < (l.length : Int) := by omega
      rcases hlet with rfl | rfl
      · skip
        have HS := HW.out
        rw [wm_L hil (HI.out hil)] at HS
        have HT : Hid (∀ w, Calls Tryd.prog 20 #[.agg #[.int .i64 a, .int .i64 b, .int .i64 c, .int .i64 d], .agg #[.int .i64 1, .int .i64 0, .int .i64 1, .int .i64 1]] w fun e w' => e = .returned (wmV (if isMx (a + b) b (c + d) d = true then some (a + b, b, c + d, d) else none) (.int .i64 0) (.int .i64 3)) ∧ Below w.heap.size w w') := fun w => mult_L a b c d w HMX.out
        clear HI
        obtain ⟨x0, hx0⟩ : ∃ z, a + b = z := ⟨_, rfl⟩
        obtain ⟨x2, hx2⟩ : ∃ z, c + d = z := ⟨_, rfl⟩
        rw [hx0, hx2] at HT HS
        clear hx0 hx2
        cases hmq : isMx x0 b x2 d
        · rw [hmq] at HS
          have HT : Hid (∀ w, Calls Tryd.prog 20 #[.agg #[.int .i64 a, .int .i64 b, .int .i64 c, .int .i64 d], .agg #[.int .i64 1, .int .i64 0, .int .i64 1, .int .i64 1]] w fun e w' => e = .returned (.tuple #[.agg #[.int .i64 0, .int .i64 0, .int .i64 0, .int .i64 0], .int .i64 3]) ∧ Below w.heap.size w w') := fun w => by
            have := HT.out w
            rwa [hmq, if_neg (by decide)] at this
          have HS2 : Hid (none = W) := by rw [if_neg (by decide)] at HS; exact HS
          clear HS hmq
          have HXX : Hid (∀ W, Below wr.heap.size wr W → Bk4 W GR 0 0 0 0 ∧ Bk4 W GM a b c d) := fun W hW => ⟨HR.out.below hW, HM.out.below hW⟩
          go_wp2_with fail
          refine wp_region_held_drew (S := fun W => Below wr.heap.size wr W) (by kernel_rfl) ?_ (fun hHeld => ?_); focus ((try dsimp only); exact (Below.refl _ _).drew)
          have HR := Lib.hid (HR.out.below (Below.drew (Below.refl _ _)))
          have HM := Lib.hid (HM.out.below (Below.drew (Below.refl _ _)))
          have hHeld : Below wr.heap.size wr _ := hHeld
          obtain ⟨wD20, hwD20⟩ : ∃ wD, wr.drew = wD := ⟨_, rfl⟩
          rw [hwD20] at hHeld HR HM ⊢
          clear hwD20
          (refine wpAnyH_take (i := 0) (v := ?_) rfl (by kernel_rfl) (by kernel_rfl) (by kernel_rfl) (fun _ _ _ h => h) (Or.inl ⟨rfl, ?_⟩) (by assumption) ?_; rotate_left; focus (intro W hSw; (try dsimp only at hSw); have hxx := HXX.out _ hSw; obtain ⟨hxR, hxM⟩ := hxx; obtain ⟨⟨iR0, iR1, iR2, iR3⟩, _, _⟩ := hxR; obtain ⟨⟨iM0, iM1, iM2, iM3⟩, _, _⟩ := hxM; go_simp; try (with_reducible rfl))); (try simp only [Act.put, List.getElem_toArray, List.getElem_cons_succ, List.getElem_cons_zero, List.setIfInBounds_toArray, List.set_cons_zero, List.set_cons_succ])
          (refine wpAnyH_take (i := 1) (v := ?_) rfl (by kernel_rfl) (by kernel_rfl) (by kernel_rfl) (fun _ _ _ h => h) (Or.inl ⟨rfl, ?_⟩) (by assumption) ?_; rotate_left; focus (intro W hSw; (try dsimp only at hSw); have hxx := HXX.out _ hSw; obtain ⟨hxR, hxM⟩ := hxx; obtain ⟨⟨iR0, iR1, iR2, iR3⟩, _, _⟩ := hxR; obtain ⟨⟨iM0, iM1, iM2, iM3⟩, _, _⟩ := hxM; go_simp; try (with_reducible rfl))); (try simp only [Act.put, List.getElem_toArray, List.getElem_cons_succ, List.getElem_cons_zero, List.setIfInBounds_toArray, List.set_cons_zero, List.set_cons_succ])
          (refine wpAnyH_take (i := 2) (v := ?_) rfl (by kernel_rfl) (by kernel_rfl) (by kernel_rfl) (fun _ _ _ h => h) (Or.inl ⟨rfl, ?_⟩) (by assumption) ?_; rotate_left; focus (intro W hSw; (try dsimp only at hSw); have hxx := HXX.out _ hSw; obtain ⟨hxR, hxM⟩ := hxx; obtain ⟨⟨iR0, iR1, iR2, iR3⟩, _, _⟩ := hxR; obtain ⟨⟨iM0, iM1, iM2, iM3⟩, _, _⟩ := hxM; go_simp; try (with_reducible rfl))); (try simp only [Act.put, List.getElem_toArray, List.getElem_cons_succ, List.getElem_cons_zero, List.setIfInBounds_toArray, List.set_cons_zero, List.set_cons_succ])
          (refine wpAnyH_take (i := 3) (v := ?_) rfl (by kernel_rfl) (by kernel_rfl) (by kernel_rfl) (fun _ _ _ h => h) (Or.inl ⟨rfl, ?_⟩) (by assumption) ?_; rotate_left; focus (intro W hSw; (try dsimp only at hSw); have hxx := HXX.out _ hSw; obtain ⟨hxR, hxM⟩ := hxx; obtain ⟨⟨iR0, iR1, iR2, iR3⟩, _, _⟩ := hxR; obtain ⟨⟨iM0, iM1, iM2, iM3⟩, _, _⟩ := hxM; go_simp; try (with_reducible rfl))); (try simp only [Act.put, List.getElem_toArray, List.getElem_cons_succ, List.getElem_cons_zero, List.setIfInBounds_toArray, List.set_cons_zero, List.set_cons_succ])
          refine wpAnyH_ready (rs := [4, 9]) (by kernel_rfl) (by simp) ?_; refine AllReadyH.cons rfl (fun K hK => ?_) (AllReadyH.cons rfl (fun K hK => ?_) AllReadyH.nil)
          · skip
            go_simp; (go_at_call 21; refine (letter_L _).mono ?_; rintro en ywr20x0 ⟨rfl, hb2⟩); have HR := Lib.hid (HR.out.below hb2); have HM := Lib.hid (HM.out.below hb2); refine hK.out _ _ (below_after hb2 hHeld) (fun hHeld2 => ?_); clear hb2; (clear hHeld; rename _ => hHeld; clear hK K; have hHeld : Below wr.heap.size wr _ := hHeld); (try simp only [Act.put, List.getElem_toArray, List.getElem_cons_succ, List.getElem_cons_zero, List.setIfInBounds_toArray, List.set_cons_zero, List.set_cons_succ])
            refine wpAnyH_ready (rs := [5, 9]) (by kernel_rfl) (by simp) ?_; refine AllReadyH.cons rfl (fun K hK => ?_) (AllReadyH.cons rfl (fun K hK => ?_) AllReadyH.nil)
            · skip
              go_simp; (go_at_call 20; refine (HT.out _).mono ?_; rintro en ywr20x1 ⟨rfl, hb2⟩); have HR := Lib.hid (HR.out.below hb2); have HM := Lib.hid (HM.out.below hb2); refine hK.out _ _ (below_after hb2 hHeld) (fun hHeld2 => ?_); clear hb2; (clear hHeld; rename _ => hHeld; clear hK K; have hHeld : Below wr.heap.size wr _ := hHeld); (try simp only [Act.put, List.getElem_toArray, List.getElem_cons_succ, List.getElem_cons_zero, List.setIfInBounds_toArray, List.set_cons_zero, List.set_cons_succ])
              (refine wpAnyH_take (i := 6) (v := ?_) rfl (by kernel_rfl) (by kernel_rfl) (by kernel_rfl) (fun _ _ _ h => h) (Or.inl ⟨rfl, ?_⟩) (by assumption) ?_; rotate_left; focus (intro W hSw; (try dsimp only at hSw); have hxx := HXX.out _ hSw; obtain ⟨hxR, hxM⟩ := hxx; obtain ⟨⟨iR0, iR1, iR2, iR3⟩, _, _⟩ := hxR; obtain ⟨⟨iM0, iM1, iM2, iM3⟩, _, _⟩ := hxM; go_simp; try (with_reducible rfl))); (try simp only [Act.put, List.getElem_toArray, List.getElem_cons_succ, List.getElem_cons_zero, List.setIfInBounds_toArray, List.set_cons_zero, List.set_cons_succ])
              (refine wpAnyH_take (i := 7) (v := ?_) rfl (by kernel_rfl) (by kernel_rfl) (by kernel_rfl) (fun _ _ _ h => h) (Or.inl ⟨rfl, ?_⟩) (by assumption) ?_; rotate_left; focus (intro W hSw; (try dsimp only at hSw); have hxx := HXX.out _ hSw; obtain ⟨hxR, hxM⟩ := hxx; obtain ⟨⟨iR0, iR1, iR2, iR3⟩, _, _⟩ := hxR; obtain ⟨⟨iM0, iM1, iM2, iM3⟩, _, _⟩ := hxM; go_simp; try (with_reducible rfl))); (try simp only [Act.put, List.getElem_toArray, List.getElem_cons_succ, List.getElem_cons_zero, List.setIfInBounds_toArray, List.set_cons_zero, List.set_cons_succ])
              (refine wpAnyH_take (i := 8) (v := ?_) rfl (by kernel_rfl) (by kernel_rfl) (by kernel_rfl) (fun _ _ _ h => h) (Or.inl ⟨rfl, ?_⟩) (by assumption) ?_; rotate_left; focus (intro W hSw; (try dsimp only at hSw); have hxx := HXX.out _ hSw; obtain ⟨hxR, hxM⟩ := hxx; obtain ⟨⟨iR0, iR1, iR2, iR3⟩, _, _⟩ := hxR; obtain ⟨⟨iM0, iM1, iM2, iM3⟩, _, _⟩ := hxM; go_simp; try (with_reducible rfl))); (try simp only [Act.put, List.getElem_toArray, List.getElem_cons_succ, List.getElem_cons_zero, List.setIfInBounds_toArray, List.set_cons_zero, List.set_cons_succ])
              refine wpAnyH_ready (rs := [9]) (by kernel_rfl) (by simp) ?_; refine AllReadyH.cons rfl (fun K hK => ?_) AllReadyH.nil
              go_simp; obtain ⟨GP, hGP⟩ : ∃ G, ywr20x1.heap.size = G := ⟨_, rfl⟩; have le_P : wr.heap.size ≤ GP := by rw [← hGP]; exact Below.size hHeld
              have ne_P_R : GP ≠ GR := by have := HR.out.2.2; omega
              have ne_R_P : GR ≠ GP := Ne.symm ne_P_R
              have ne_P_M : GP ≠ GM := by have := HM.out.2.2; omega
              have ne_M_P : GM ≠ GP := Ne.symm ne_P_M
              have HR := Lib.hid (HR.out.below ((Below.refl _ _).alloc (Nat.le_refl _) (.cells #[.int .i64 0, .int .i64 0, .int .i64 0, .int .i64 0] 24))); have HM := Lib.hid (HM.out.below ((Below.refl _ _).alloc (Nat.le_refl _) (.cells #[.int .i64 0, .int .i64 0, .int .i64 0, .int .i64 0] 24))); skip
              have HP : Hid (Bk4 (ywr20x1.alloc (.cells #[.int .i64 0, .int .i64 0, .int .i64 0, .int .i64 0] 24)) GP 0 0 0 0) := by rw [← hGP]; exact bk4_new ywr20x1 0 0 0 0 _
              refine hK.out _ _ (Below.alloc hHeld (Below.size hHeld) _) (fun hHeld2 => ?_); (clear hHeld; rename _ => hHeld; clear hK K; have hHeld : Below wr.heap.size wr _ := hHeld); (try simp only [Act.put, List.getElem_toArray, List.getElem_cons_succ, List.getElem_cons_zero, List.setIfInBounds_toArray, List.set_cons_zero, List.set_cons_succ])
              rw [hGP]; clear hGP; obtain ⟨ywr20x2, hwx⟩ : ∃ wx, ywr20x1.alloc (.cells #[.int .i64 0, .int .i64 0, .int .i64 0, .int .i64 0] 24) = wx := ⟨_, rfl⟩; rw [hwx] at HR HM HP hHeld ⊢; clear hwx
              refine wpAnyH_ready (rs := [10]) (by kernel_rfl) (by simp) ?_; refine AllReadyH.cons rfl (fun K hK => ?_) AllReadyH.nil
              obtain ⟨⟨a0, a1, a2, a3⟩, ⟨f0, f1, f2, f3⟩, az⟩ := HP.out; go_simp; clear a0 f0 a1 f1 a2 f2 a3 f3 az
              have HR := Lib.hid ((((HR.out.far ⟨GP, 0, none⟩ (.int .i64 0) (by show GR ≠ GP; exact ne_R_P)).far ⟨GP, 1, none⟩ (.int .i64 0) (by show GR ≠ GP; exact ne_R_P)).far ⟨GP, 2, none⟩ (.int .i64 0) (by show GR ≠ GP; exact ne_R_P)).far ⟨GP, 3, none⟩ (.int .i64 0) (by show GR ≠ GP; exact ne_R_P))
              have HM := Lib.hid ((((HM.out.far ⟨GP, 0, none⟩ (.int .i64 0) (by show GM ≠ GP; exact ne_M_P)).far ⟨GP, 1, none⟩ (.int .i64 0) (by show GM ≠ GP; exact ne_M_P)).far ⟨GP, 2, none⟩ (.int .i64 0) (by show GM ≠ GP; exact ne_M_P)).far ⟨GP, 3, none⟩ (.int .i64 0) (by show GM ≠ GP; exact ne_M_P))
              have HP := Lib.hid ((((HP.out.set0 0).set1 0).set2 0).set3 0)
              refine hK.out _ _ (Below.setCell (Below.setCell (Below.setCell (Below.setCell hHeld (p := ⟨GP, 0, none⟩) le_P _) (p := ⟨GP, 1, none⟩) le_P _) (p := ⟨GP, 2, none⟩) le_P _) (p := ⟨GP, 3, none⟩) le_P _) (fun hHeld2 => ?_); (clear hHeld; rename _ => hHeld; clear hK K; have hHeld : Below wr.heap.size wr _ := hHeld); (try simp only [Act.put, List.getElem_toArray, List.getElem_cons_succ, List.getElem_cons_zero, List.setIfInBounds_toArray, List.set_cons_zero, List.set_cons_succ])
              obtain ⟨ywr20x3, hwx⟩ : ∃ wx, (((ywr20x2.setCell ⟨GP, 0, none⟩ (.int .i64 0)).setCell ⟨GP, 1, none⟩ (.int .i64 0)).setCell ⟨GP, 2, none⟩ (.int .i64 0)).setCell ⟨GP, 3, none⟩ (.int .i64 0) = wx := ⟨_, rfl⟩; rw [hwx] at HR HM HP hHeld ⊢; clear hwx
              (refine wpAnyH_take (i := 11) (v := ?_) rfl (by kernel_rfl) (by kernel_rfl) (by kernel_rfl) (fun _ _ _ h => h) (Or.inl ⟨rfl, ?_⟩) (by assumption) ?_; rotate_left; focus (intro W hSw; (try dsimp only at hSw); have hxx := HXX.out _ hSw; obtain ⟨hxR, hxM⟩ := hxx; obtain ⟨⟨iR0, iR1, iR2, iR3⟩, _, _⟩ := hxR; obtain ⟨⟨iM0, iM1, iM2, iM3⟩, _, _⟩ := hxM; go_simp; try (with_reducible rfl))); (try simp only [Act.put, List.getElem_toArray, List.getElem_cons_succ, List.getElem_cons_zero, List.setIfInBounds_toArray, List.set_cons_zero, List.set_cons_succ])
              refine wpAnyH_done (by kernel_rfl) ?_ _
              have le_P : w.heap.size ≤ GP := Nat.le_trans HB.out.size le_P
              have HB := Lib.hid (HB.out.trans (hHeld.mono HB.out.size))
              clear hHeld HXX
              obtain ⟨⟨qR0, qR1, qR2, qR3⟩, ⟨fR0, fR1, fR2, fR3⟩, zR⟩ := HR.out
              obtain ⟨⟨qM0, qM1, qM2, qM3⟩, ⟨fM0, fM1, fM2, fM3⟩, zM⟩ := HM.out
              obtain ⟨⟨qP0, qP1, qP2, qP3⟩, ⟨fP0, fP1, fP2, fP3⟩, zP⟩ := HP.out
              go_wp2_with fail
              refine bodyPost_ret (v := .tuple #[.agg #[.int .i64 0, .int .i64 0, .int .i64 0, .int .i64 0], .int .i64 3]) (by simp (maxDischargeDepth := 8) [results, Tryd.results7, go_sem, *]) rfl ?_
              have hb := HB.out
              exact ⟨by rw [← HS2.out]; rfl, by (repeat' (first | (with_reducible exact Below.refl _ _) | (with_reducible refine Below.alloc ?_ ?_ _) | (with_reducible refine Below.setCell ?_ ?_ _) | (with_reducible refine Below.drew ?_) | (with_reducible refine below_drewN ?_ _) | (with_reducible assumption) | (with_reducible refine below_after (by with_reducible assumption) ?_) | go_size))⟩
            · skip
              go_simp; obtain ⟨GP, hGP⟩ : ∃ G, ywr20x0.heap.size = G := ⟨_, rfl⟩; have le_P : wr.heap.size ≤ GP := by rw [← hGP]; exact Below.size hHeld
              have ne_P_R : GP ≠ GR := by have := HR.out.2.2; omega
              have ne_R_P : GR ≠ GP := Ne.symm ne_P_R
              have ne_P_M : GP ≠ GM := by have := HM.out.2.2; omega
              have ne_M_P : GM ≠ GP := Ne.symm ne_P_M
              have HR := Lib.hid (HR.out.below ((Below.refl _ _).alloc (Nat.le_refl _) (.cells #[.int .i64 0, .int .i64 0, .int .i64 0, .int .i64 0] 24))); have HM := Lib.hid (HM.out.below ((Below.refl _ _).alloc (Nat.le_refl _) (.cells #[.int .i64 0, .int .i64 0, .int .i64 0, .int .i64 0] 24))); skip
              have HP : Hid (Bk4 (ywr20x0.alloc (.cells #[.int .i64 0, .int .i64 0, .int .i64 0, .int .i64 0] 24)) GP 0 0 0 0) := by rw [← hGP]; exact bk4_new ywr20x0 0 0 0 0 _
              refine hK.out _ _ (Below.alloc hHeld (Below.size hHeld) _) (fun hHeld2 => ?_); (clear hHeld; rename _ => hHeld; clear hK K; have hHeld : Below wr.heap.size wr _ := hHeld); (try simp only [Act.put, List.getElem_toArray, List.getElem_cons_succ, List.getElem_cons_zero, List.setIfInBounds_toArray, List.set_cons_zero, List.set_cons_succ])
              rw [hGP]; clear hGP; obtain ⟨ywr20x1, hwx⟩ : ∃ wx, ywr20x0.alloc (.cells #[.int .i64 0, .int .i64 0, .int .i64 0, .int .i64 0] 24) = wx := ⟨_, rfl⟩; rw [hwx] at HR HM HP hHeld ⊢; clear hwx
              refine wpAnyH_ready (rs := [5]) (by kernel_rfl) (by simp) ?_; refine AllReadyH.cons rfl (fun K hK => ?_) AllReadyH.nil
              go_simp; (go_at_call 20; refine (HT.out _).mono ?_; rintro en ywr20x2 ⟨rfl, hb2⟩); have HR := Lib.hid (HR.out.below hb2); have HM := Lib.hid (HM.out.below hb2); have HP := Lib.hid (HP.out.below hb2); refine hK.out _ _ (below_after hb2 hHeld) (fun hHeld2 => ?_); clear hb2; (clear hHeld; rename _ => hHeld; clear hK K; have hHeld : Below wr.heap.size wr _ := hHeld); (try simp only [Act.put, List.getElem_toArray, List.getElem_cons_succ, List.getElem_cons_zero, List.setIfInBounds_toArray, List.set_cons_zero, List.set_cons_succ])
              (refine wpAnyH_take (i := 6) (v := ?_) rfl (by kernel_rfl) (by kernel_rfl) (by kernel_rfl) (fun _ _ _ h => h) (Or.inl ⟨rfl, ?_⟩) (by assumption) ?_; rotate_left; focus (intro W hSw; (try dsimp only at hSw); have hxx := HXX.out _ hSw; obtain ⟨hxR, hxM⟩ := hxx; obtain ⟨⟨iR0, iR1, iR2, iR3⟩, _, _⟩ := hxR; obtain ⟨⟨iM0, iM1, iM2, iM3⟩, _, _⟩ := hxM; go_simp; try (with_reducible rfl))); (try simp only [Act.put, List.getElem_toArray, List.getElem_cons_succ, List.getElem_cons_zero, List.setIfInBounds_toArray, List.set_cons_zero, List.set_cons_succ])
              (refine wpAnyH_take (i := 7) (v := ?_) rfl (by kernel_rfl) (by kernel_rfl) (by kernel_rfl) (fun _ _ _ h => h) (Or.inl ⟨rfl, ?_⟩) (by assumption) ?_; rotate_left; focus (intro W hSw; (try dsimp only at hSw); have hxx := HXX.out _ hSw; obtain ⟨hxR, hxM⟩ := hxx; obtain ⟨⟨iR0, iR1, iR2, iR3⟩, _, _⟩ := hxR; obtain ⟨⟨iM0, iM1, iM2, iM3⟩, _, _⟩ := hxM; go_simp; try (with_reducible rfl))); (try simp only [Act.put, List.getElem_toArray, List.getElem_cons_succ, List.getElem_cons_zero, List.setIfInBounds_toArray, List.set_cons_zero, List.set_cons_succ])
              (refine wpAnyH_take (i := 8) (v := ?_) rfl (by kernel_rfl) (by kernel_rfl) (by kernel_rfl) (fun _ _ _ h => h) (Or.inl ⟨rfl, ?_⟩) (by assumption) ?_; rotate_left; focus (intro W hSw; (try dsimp only at hSw); have hxx := HXX.out _ hSw; obtain ⟨hxR, hxM⟩ := hxx; obtain ⟨⟨iR0, iR1, iR2, iR3⟩, _, _⟩ := hxR; obtain ⟨⟨iM0, iM1, iM2, iM3⟩, _, _⟩ := hxM; go_simp; try (with_reducible rfl))); (try simp only [Act.put, List.getElem_toArray, List.getElem_cons_succ, List.getElem_cons_zero, List.setIfInBounds_toArray, List.set_cons_zero, List.set_cons_succ])
              refine wpAnyH_ready (rs := [10]) (by kernel_rfl) (by simp) ?_; refine AllReadyH.cons rfl (fun K hK => ?_) AllReadyH.nil
              obtain ⟨⟨a0, a1, a2, a3⟩, ⟨f0, f1, f2, f3⟩, az⟩ := HP.out; go_simp; clear a0 f0 a1 f1 a2 f2 a3 f3 az
              have HR := Lib.hid ((((HR.out.far ⟨GP, 0, none⟩ (.int .i64 0) (by show GR ≠ GP; exact ne_R_P)).far ⟨GP, 1, none⟩ (.int .i64 0) (by show GR ≠ GP; exact ne_R_P)).far ⟨GP, 2, none⟩ (.int .i64 0) (by show GR ≠ GP; exact ne_R_P)).far ⟨GP, 3, none⟩ (.int .i64 0) (by show GR ≠ GP; exact ne_R_P))
              have HM := Lib.hid ((((HM.out.far ⟨GP, 0, none⟩ (.int .i64 0) (by show GM ≠ GP; exact ne_M_P)).far ⟨GP, 1, none⟩ (.int .i64 0) (by show GM ≠ GP; exact ne_M_P)).far ⟨GP, 2, none⟩ (.int .i64 0) (by show GM ≠ GP; exact ne_M_P)).far ⟨GP, 3, none⟩ (.int .i64 0) (by show GM ≠ GP; exact ne_M_P))
              have HP := Lib.hid ((((HP.out.set0 0).set1 0).set2 0).set3 0)
              refine hK.out _ _ (Below.setCell (Below.setCell (Below.setCell (Below.setCell hHeld (p := ⟨GP, 0, none⟩) le_P _) (p := ⟨GP, 1, none⟩) le_P _) (p := ⟨GP, 2, none⟩) le_P _) (p := ⟨GP, 3, none⟩) le_P _) (fun hHeld2 => ?_); (clear hHeld; rename _ => hHeld; clear hK K; have hHeld : Below wr.heap.size wr _ := hHeld); (try simp only [Act.put, List.getElem_toArray, List.getElem_cons_succ, List.getElem_cons_zero, List.setIfInBounds_toArray, List.set_cons_zero, List.set_cons_succ])
              obtain ⟨ywr20x3, hwx⟩ : ∃ wx, (((ywr20x2.setCell ⟨GP, 0, none⟩ (.int .i64 0)).setCell ⟨GP, 1, none⟩ (.int .i64 0)).setCell ⟨GP, 2, none⟩ (.int .i64 0)).setCell ⟨GP, 3, none⟩ (.int .i64 0) = wx := ⟨_, rfl⟩; rw [hwx] at HR HM HP hHeld ⊢; clear hwx
              (refine wpAnyH_take (i := 11) (v := ?_) rfl (by kernel_rfl) (by kernel_rfl) (by kernel_rfl) (fun _ _ _ h => h) (Or.inl ⟨rfl, ?_⟩) (by assumption) ?_; rotate_left; focus (intro W hSw; (try dsimp only at hSw); have hxx := HXX.out _ hSw; obtain ⟨hxR, hxM⟩ := hxx; obtain ⟨⟨iR0, iR1, iR2, iR3⟩, _, _⟩ := hxR; obtain ⟨⟨iM0, iM1, iM2, iM3⟩, _, _⟩ := hxM; go_simp; try (with_reducible rfl))); (try simp only [Act.put, List.getElem_toArray, List.getElem_cons_succ, List.getElem_cons_zero, List.setIfInBounds_toArray, List.set_cons_zero, List.set_cons_succ])
              refine wpAnyH_done (by kernel_rfl) ?_ _
              have le_P : w.heap.size ≤ GP := Nat.le_trans HB.out.size le_P
              have HB := Lib.hid (HB.out.trans (hHeld.mono HB.out.size))
              clear hHeld HXX
              obtain ⟨⟨qR0, qR1, qR2, qR3⟩, ⟨fR0, fR1, fR2, fR3⟩, zR⟩ := HR.out
              obtain ⟨⟨qM0, qM1, qM2, qM3⟩, ⟨fM0, fM1, fM2, fM3⟩, zM⟩ := HM.out
              obtain ⟨⟨qP0, qP1, qP2, qP3⟩, ⟨fP0, fP1, fP2, fP3⟩, zP⟩ := HP.out
              go_wp2_with fail
              refine bodyPost_ret (v := .tuple #[.agg #[.int .i64 0, .int .i64 0, .int .i64 0, .int .i64 0], .int .i64 3]) (by simp (maxDischargeDepth := 8) [results, Tryd.results7, go_sem, *]) rfl ?_
              have hb := HB.out
              exact ⟨by rw [← HS2.out]; rfl, by (repeat' (first | (with_reducible exact Below.refl _ _) | (with_reducible refine Below.alloc ?_ ?_ _) | (with_reducible refine Below.setCell ?_ ?_ _) | (with_reducible refine Below.drew ?_) | (with_reducible refine below_drewN ?_ _) | (with_reducible assumption) | (with_reducible refine below_after (by with_reducible assumption) ?_) | go_size))⟩
          · skip
            go_simp; obtain ⟨GP, hGP⟩ : ∃ G, wD20.heap.size = G := ⟨_, rfl⟩; have le_P : wr.heap.size ≤ GP := by rw [← hGP]; exact Below.size hHeld
            have ne_P_R : GP ≠ GR := by have := HR.out.2.2; omega
            have ne_R_P : GR ≠ GP := Ne.symm ne_P_R
            have ne_P_M : GP ≠ GM := by have := HM.out.2.2; omega
            have ne_M_P : GM ≠ GP := Ne.symm ne_P_M
            have HR := Lib.hid (HR.out.below ((Below.refl _ _).alloc (Nat.le_refl _) (.cells #[.int .i64 0, .int .i64 0, .int .i64 0, .int .i64 0] 24))); have HM := Lib.hid (HM.out.below ((Below.refl _ _).alloc (Nat.le_refl _) (.cells #[.int .i64 0, .int .i64 0, .int .i64 0, .int .i64 0] 24))); skip
            have HP : Hid (Bk4 (wD20.alloc (.cells #[.int .i64 0, .int .i64 0, .int .i64 0, .int .i64 0] 24)) GP 0 0 0 0) := by rw [← hGP]; exact bk4_new wD20 0 0 0 0 _
            refine hK.out _ _ (Below.alloc hHeld (Below.size hHeld) _) (fun hHeld2 => ?_); (clear hHeld; rename _ => hHeld; clear hK K; have hHeld : Below wr.heap.size wr _ := hHeld); (try simp only [Act.put, List.getElem_toArray, List.getElem_cons_succ, List.getElem_cons_zero, List.setIfInBounds_toArray, List.set_cons_zero, List.set_cons_succ])
            rw [hGP]; clear hGP; obtain ⟨ywr20x0, hwx⟩ : ∃ wx, wD20.alloc (.cells #[.int .i64 0, .int .i64 0, .int .i64 0, .int .i64 0] 24) = wx := ⟨_, rfl⟩; rw [hwx] at HR HM HP hHeld ⊢; clear hwx
            refine wpAnyH_ready (rs := [4]) (by kernel_rfl) (by simp) ?_; refine AllReadyH.cons rfl (fun K hK => ?_) AllReadyH.nil
            go_simp; (go_at_call 21; refine (letter_L _).mono ?_; rintro en ywr20x1 ⟨rfl, hb2⟩); have HR := Lib.hid (HR.out.below hb2); have HM := Lib.hid (HM.out.below hb2); have HP := Lib.hid (HP.out.below hb2); refine hK.out _ _ (below_after hb2 hHeld) (fun hHeld2 => ?_); clear hb2; (clear hHeld; rename _ => hHeld; clear hK K; have hHeld : Below wr.heap.size wr _ := hHeld); (try simp only [Act.put, List.getElem_toArray, List.getElem_cons_succ, List.getElem_cons_zero, List.setIfInBounds_toArray, List.set_cons_zero, List.set_cons_succ])
            refine wpAnyH_ready (rs := [5]) (by kernel_rfl) (by simp) ?_; refine AllReadyH.cons rfl (fun K hK => ?_) AllReadyH.nil
            go_simp; (go_at_call 20; refine (HT.out _).mono ?_; rintro en ywr20x2 ⟨rfl, hb2⟩); have HR := Lib.hid (HR.out.below hb2); have HM := Lib.hid (HM.out.below hb2); have HP := Lib.hid (HP.out.below hb2); refine hK.out _ _ (below_after hb2 hHeld) (fun hHeld2 => ?_); clear hb2; (clear hHeld; rename _ => hHeld; clear hK K; have hHeld : Below wr.heap.size wr _ := hHeld); (try simp only [Act.put, List.getElem_toArray, List.getElem_cons_succ, List.getElem_cons_zero, List.setIfInBounds_toArray, List.set_cons_zero, List.set_cons_succ])
            (refine wpAnyH_take (i := 6) (v := ?_) rfl (by kernel_rfl) (by kernel_rfl) (by kernel_rfl) (fun _ _ _ h => h) (Or.inl ⟨rfl, ?_⟩) (by assumption) ?_; rotate_left; focus (intro W hSw; (try dsimp only at hSw); have hxx := HXX.out _ hSw; obtain ⟨hxR, hxM⟩ := hxx; obtain ⟨⟨iR0, iR1, iR2, iR3⟩, _, _⟩ := hxR; obtain ⟨⟨iM0, iM1, iM2, iM3⟩, _, _⟩ := hxM; go_simp; try (with_reducible rfl))); (try simp only [Act.put, List.getElem_toArray, List.getElem_cons_succ, List.getElem_cons_zero, List.setIfInBounds_toArray, List.set_cons_zero, List.set_cons_succ])
            (refine wpAnyH_take (i := 7) (v := ?_) rfl (by kernel_rfl) (by kernel_rfl) (by kernel_rfl) (fun _ _ _ h => h) (Or.inl ⟨rfl, ?_⟩) (by assumption) ?_; rotate_left; focus (intro W hSw; (try dsimp only at hSw); have hxx := HXX.out _ hSw; obtain ⟨hxR, hxM⟩ := hxx; obtain ⟨⟨iR0, iR1, iR2, iR3⟩, _, _⟩ := hxR; obtain ⟨⟨iM0, iM1, iM2, iM3⟩, _, _⟩ := hxM; go_simp; try (with_reducible rfl))); (try simp only [Act.put, List.getElem_toArray, List.getElem_cons_succ, List.getElem_cons_zero, List.setIfInBounds_toArray, List.set_cons_zero, List.set_cons_succ])
            (refine wpAnyH_take (i := 8) (v := ?_) rfl (by kernel_rfl) (by kernel_rfl) (by kernel_rfl) (fun _ _ _ h => h) (Or.inl ⟨rfl, ?_⟩) (by assumption) ?_; rotate_left; focus (intro W hSw; (try dsimp only at hSw); have hxx := HXX.out _ hSw; obtain ⟨hxR, hxM⟩ := hxx; obtain ⟨⟨iR0, iR1, iR2, iR3⟩, _, _⟩ := hxR; obtain ⟨⟨iM0, iM1, iM2, iM3⟩, _, _⟩ := hxM; go_simp; try (with_reducible rfl))); (try simp only [Act.put, List.getElem_toArray, List.getElem_cons_succ, List.getElem_cons_zero, List.setIfInBounds_toArray, List.set_cons_zero, List.set_cons_succ])
            refine wpAnyH_ready (rs := [10]) (by kernel_rfl) (by simp) ?_; refine AllReadyH.cons rfl (fun K hK => ?_) AllReadyH.nil
            obtain ⟨⟨a0, a1, a2, a3⟩, ⟨f0, f1, f2, f3⟩, az⟩ := HP.out; go_simp; clear a0 f0 a1 f1 a2 f2 a3 f3 az
            have HR := Lib.hid ((((HR.out.far ⟨GP, 0, none⟩ (.int .i64 0) (by show GR ≠ GP; exact ne_R_P)).far ⟨GP, 1, none⟩ (.int .i64 0) (by show GR ≠ GP; exact ne_R_P)).far ⟨GP, 2, none⟩ (.int .i64 0) (by show GR ≠ GP; exact ne_R_P)).far ⟨GP, 3, none⟩ (.int .i64 0) (by show GR ≠ GP; exact ne_R_P))
            have HM := Lib.hid ((((HM.out.far ⟨GP, 0, none⟩ (.int .i64 0) (by show GM ≠ GP; exact ne_M_P)).far ⟨GP, 1, none⟩ (.int .i64 0) (by show GM ≠ GP; exact ne_M_P)).far ⟨GP, 2, none⟩ (.int .i64 0) (by show GM ≠ GP; exact ne_M_P)).far ⟨GP, 3, none⟩ (.int .i64 0) (by show GM ≠ GP; exact ne_M_P))
            have HP := Lib.hid ((((HP.out.set0 0).set1 0).set2 0).set3 0)
            refine hK.out _ _ (Below.setCell (Below.setCell (Below.setCell (Below.setCell hHeld (p := ⟨GP, 0, none⟩) le_P _) (p := ⟨GP, 1, none⟩) le_P _) (p := ⟨GP, 2, none⟩) le_P _) (p := ⟨GP, 3, none⟩) le_P _) (fun hHeld2 => ?_); (clear hHeld; rename _ => hHeld; clear hK K; have hHeld : Below wr.heap.size wr _ := hHeld); (try simp only [Act.put, List.getElem_toArray, List.getElem_cons_succ, List.getElem_cons_zero, List.setIfInBounds_toArray, List.set_cons_zero, List.set_cons_succ])
            obtain ⟨ywr20x3, hwx⟩ : ∃ wx, (((ywr20x2.setCell ⟨GP, 0, none⟩ (.int .i64 0)).setCell ⟨GP, 1, none⟩ (.int .i64 0)).setCell ⟨GP, 2, none⟩ (.int .i64 0)).setCell ⟨GP, 3, none⟩ (.int .i64 0) = wx := ⟨_, rfl⟩; rw [hwx] at HR HM HP hHeld ⊢; clear hwx
            (refine wpAnyH_take (i := 11) (v := ?_) rfl (by kernel_rfl) (by kernel_rfl) (by kernel_rfl) (fun _ _ _ h => h) (Or.inl ⟨rfl, ?_⟩) (by assumption) ?_; rotate_left; focus (intro W hSw; (try dsimp only at hSw); have hxx := HXX.out _ hSw; obtain ⟨hxR, hxM⟩ := hxx; obtain ⟨⟨iR0, iR1, iR2, iR3⟩, _, _⟩ := hxR; obtain ⟨⟨iM0, iM1, iM2, iM3⟩, _, _⟩ := hxM; go_simp; try (with_reducible rfl))); (try simp only [Act.put, List.getElem_toArray, List.getElem_cons_succ, List.getElem_cons_zero, List.setIfInBounds_toArray, List.set_cons_zero, List.set_cons_succ])
            refine wpAnyH_done (by kernel_rfl) ?_ _
            have le_P : w.heap.size ≤ GP := Nat.le_trans HB.out.size le_P
            have HB := Lib.hid (HB.out.trans (hHeld.mono HB.out.size))
            clear hHeld HXX
            obtain ⟨⟨qR0, qR1, qR2, qR3⟩, ⟨fR0, fR1, fR2, fR3⟩, zR⟩ := HR.out
            obtain ⟨⟨qM0, qM1, qM2, qM3⟩, ⟨fM0, fM1, fM2, fM3⟩, zM⟩ := HM.out
            obtain ⟨⟨qP0, qP1, qP2, qP3⟩, ⟨fP0, fP1, fP2, fP3⟩, zP⟩ := HP.out
            go_wp2_with fail
            refine bodyPost_ret (v := .tuple #[.agg #[.int .i64 0, .int .i64 0, .int .i64 0, .int .i64 0], .int .i64 3]) (by simp (maxDischargeDepth := 8) [results, Tryd.results7, go_sem, *]) rfl ?_
            have hb := HB.out
            exact ⟨by rw [← HS2.out]; rfl, by (repeat' (first | (with_reducible exact Below.refl _ _) | (with_reducible refine Below.alloc ?_ ?_ _) | (with_reducible refine Below.setCell ?_ ?_ _) | (with_reducible refine Below.drew ?_) | (with_reducible refine below_drewN ?_ _) | (with_reducible assumption) | (with_reducible refine below_after (by with_reducible assumption) ?_) | go_size))⟩
        · rw [hmq] at HS
          have HT : Hid (∀ w, Calls Tryd.prog 20 #[.agg #[.int .i64 a, .int .i64 b, .int .i64 c, .int .i64 d], .agg #[.int .i64 1, .int .i64 0, .int .i64 1, .int .i64 1]] w fun e w' => e = .returned (.tuple #[.agg #[.int .i64 x0, .int .i64 b, .int .i64 x2, .int .i64 d], .int .i64 0]) ∧ Below w.heap.size w w') := fun w => by
            have := HT.out w
            rwa [hmq, if_pos rfl] at this
          have HS2 : Hid (wm (l.drop (i + 1)) x0 b x2 d = W) := by rw [if_pos rfl] at HS; exact HS
          have HMX2 := Lib.hid hmq
          clear HS hmq
          have HXX : Hid (∀ W, Below wr.heap.size wr W → Bk4 W GR 0 0 0 0 ∧ Bk4 W GM a b c d) := fun W hW => ⟨HR.out.below hW, HM.out.below hW⟩
          go_wp2_with fail
          refine wp_region_held_drew (S := fun W => Below wr.heap.size wr W) (by kernel_rfl) ?_ (fun hHeld => ?_); focus ((try dsimp only); exact (Below.refl _ _).drew)
          have HR := Lib.hid (HR.out.below (Below.drew (Below.refl _ _)))
          have HM := Lib.hid (HM.out.below (Below.drew (Below.refl _ _)))
          have hHeld : Below wr.heap.size wr _ := hHeld
          obtain ⟨wD20, hwD20⟩ : ∃ wD, wr.drew = wD := ⟨_, rfl⟩
          rw [hwD20] at hHeld HR HM ⊢
          clear hwD20
          (refine wpAnyH_take (i := 0) (v := ?_) rfl (by kernel_rfl) (by kernel_rfl) (by kernel_rfl) (fun _ _ _ h => h) (Or.inl ⟨rfl, ?_⟩) (by assumption) ?_; rotate_left; focus (intro W hSw; (try dsimp only at hSw); have hxx := HXX.out _ hSw; obtain ⟨hxR, hxM⟩ := hxx; obtain ⟨⟨iR0, iR1, iR2, iR3⟩, _, _⟩ := hxR; obtain ⟨⟨iM0, iM1, iM2, iM3⟩, _, _⟩ := hxM; go_simp; try (with_reducible rfl))); (try simp only [Act.put, List.getElem_toArray, List.getElem_cons_succ, List.getElem_cons_zero, List.setIfInBounds_toArray, List.set_cons_zero, List.set_cons_succ])
          (refine wpAnyH_take (i := 1) (v := ?_) rfl (by kernel_rfl) (by kernel_rfl) (by kernel_rfl) (fun _ _ _ h => h) (Or.inl ⟨rfl, ?_⟩) (by assumption) ?_; rotate_left; focus (intro W hSw; (try dsimp only at hSw); have hxx := HXX.out _ hSw; obtain ⟨hxR, hxM⟩ := hxx; obtain ⟨⟨iR0, iR1, iR2, iR3⟩, _, _⟩ := hxR; obtain ⟨⟨iM0, iM1, iM2, iM3⟩, _, _⟩ := hxM; go_simp; try (with_reducible rfl))); (try simp only [Act.put, List.getElem_toArray, List.getElem_cons_succ, List.getElem_cons_zero, List.setIfInBounds_toArray, List.set_cons_zero, List.set_cons_succ])
          (refine wpAnyH_take (i := 2) (v := ?_) rfl (by kernel_rfl) (by kernel_rfl) (by kernel_rfl) (fun _ _ _ h => h) (Or.inl ⟨rfl, ?_⟩) (by assumption) ?_; rotate_left; focus (intro W hSw; (try dsimp only at hSw); have hxx := HXX.out _ hSw; obtain ⟨hxR, hxM⟩ := hxx; obtain ⟨⟨iR0, iR1, iR2, iR3⟩, _, _⟩ := hxR; obtain ⟨⟨iM0, iM1, iM2, iM3⟩, _, _⟩ := hxM; go_simp; try (with_reducible rfl))); (try simp only [Act.put, List.getElem_toArray, List.getElem_cons_succ, List.getElem_cons_zero, List.setIfInBounds_toArray, List.set_cons_zero, List.set_cons_succ])
          (refine wpAnyH_take (i := 3) (v := ?_) rfl (by kernel_rfl) (by kernel_rfl) (by kernel_rfl) (fun _ _ _ h => h) (Or.inl ⟨rfl, ?_⟩) (by assumption) ?_; rotate_left; focus (intro W hSw; (try dsimp only at hSw); have hxx := HXX.out _ hSw; obtain ⟨hxR, hxM⟩ := hxx; obtain ⟨⟨iR0, iR1, iR2, iR3⟩, _, _⟩ := hxR; obtain ⟨⟨iM0, iM1, iM2, iM3⟩, _, _⟩ := hxM; go_simp; try (with_reducible rfl))); (try simp only [Act.put, List.getElem_toArray, List.getElem_cons_succ, List.getElem_cons_zero, List.setIfInBounds_toArray, List.set_cons_zero, List.set_cons_succ])
          refine wpAnyH_ready (rs := [4, 9]) (by kernel_rfl) (by simp) ?_; refine AllReadyH.cons rfl (fun K hK => ?_) (AllReadyH.cons rfl (fun K hK => ?_) AllReadyH.nil)
          · skip
            go_simp; (go_at_call 21; refine (letter_L _).mono ?_; rintro en ywr20x0 ⟨rfl, hb2⟩); have HR := Lib.hid (HR.out.below hb2); have HM := Lib.hid (HM.out.below hb2); refine hK.out _ _ (below_after hb2 hHeld) (fun hHeld2 => ?_); clear hb2; (clear hHeld; rename _ => hHeld; clear hK K; have hHeld : Below wr.heap.size wr _ := hHeld); (try simp only [Act.put, List.getElem_toArray, List.getElem_cons_succ, List.getElem_cons_zero, List.setIfInBounds_toArray, List.set_cons_zero, List.set_cons_succ])
            refine wpAnyH_ready (rs := [5, 9]) (by kernel_rfl) (by simp) ?_; refine AllReadyH.cons rfl (fun K hK => ?_) (AllReadyH.cons rfl (fun K hK => ?_) AllReadyH.nil)
            · skip
              go_simp; (go_at_call 20; refine (HT.out _).mono ?_; rintro en ywr20x1 ⟨rfl, hb2⟩); have HR := Lib.hid (HR.out.below hb2); have HM := Lib.hid (HM.out.below hb2); refine hK.out _ _ (below_after hb2 hHeld) (fun hHeld2 => ?_); clear hb2; (clear hHeld; rename _ => hHeld; clear hK K; have hHeld : Below wr.heap.size wr _ := hHeld); (try simp only [Act.put, List.getElem_toArray, List.getElem_cons_succ, List.getElem_cons_zero, List.setIfInBounds_toArray, List.set_cons_zero, List.set_cons_succ])
              (refine wpAnyH_take (i := 6) (v := ?_) rfl (by kernel_rfl) (by kernel_rfl) (by kernel_rfl) (fun _ _ _ h => h) (Or.inl ⟨rfl, ?_⟩) (by assumption) ?_; rotate_left; focus (intro W hSw; (try dsimp only at hSw); have hxx := HXX.out _ hSw; obtain ⟨hxR, hxM⟩ := hxx; obtain ⟨⟨iR0, iR1, iR2, iR3⟩, _, _⟩ := hxR; obtain ⟨⟨iM0, iM1, iM2, iM3⟩, _, _⟩ := hxM; go_simp; try (with_reducible rfl))); (try simp only [Act.put, List.getElem_toArray, List.getElem_cons_succ, List.getElem_cons_zero, List.setIfInBounds_toArray, List.set_cons_zero, List.set_cons_succ])
              (refine wpAnyH_take (i := 7) (v := ?_) rfl (by kernel_rfl) (by kernel_rfl) (by kernel_rfl) (fun _ _ _ h => h) (Or.inl ⟨rfl, ?_⟩) (by assumption) ?_; rotate_left; focus (intro W hSw; (try dsimp only at hSw); have hxx := HXX.out _ hSw; obtain ⟨hxR, hxM⟩ := hxx; obtain ⟨⟨iR0, iR1, iR2, iR3⟩, _, _⟩ := hxR; obtain ⟨⟨iM0, iM1, iM2, iM3⟩, _, _⟩ := hxM; go_simp; try (with_reducible rfl))); (try simp only [Act.put, List.getElem_toArray, List.getElem_cons_succ, List.getElem_cons_zero, List.setIfInBounds_toArray, List.set_cons_zero, List.set_cons_succ])
              (refine wpAnyH_take (i := 8) (v := ?_) rfl (by kernel_rfl) (by kernel_rfl) (by kernel_rfl) (fun _ _ _ h => h) (Or.inl ⟨rfl, ?_⟩) (by assumption) ?_; rotate_left; focus (intro W hSw; (try dsimp only at hSw); have hxx := HXX.out _ hSw; obtain ⟨hxR, hxM⟩ := hxx; obtain ⟨⟨iR0, iR1, iR2, iR3⟩, _, _⟩ := hxR; obtain ⟨⟨iM0, iM1, iM2, iM3⟩, _, _⟩ := hxM; go_simp; try (with_reducible rfl))); (try simp only [Act.put, List.getElem_toArray, List.getElem_cons_succ, List.getElem_cons_zero, List.setIfInBounds_toArray, List.set_cons_zero, List.set_cons_succ])
              refine wpAnyH_ready (rs := [9]) (by kernel_rfl) (by simp) ?_; refine AllReadyH.cons rfl (fun K hK => ?_) AllReadyH.nil
              go_simp; obtain ⟨GP, hGP⟩ : ∃ G, ywr20x1.heap.size = G := ⟨_, rfl⟩; have le_P : wr.heap.size ≤ GP := by rw [← hGP]; exact Below.size hHeld
              have ne_P_R : GP ≠ GR := by have := HR.out.2.2; omega
              have ne_R_P : GR ≠ GP := Ne.symm ne_P_R
              have ne_P_M : GP ≠ GM := by have := HM.out.2.2; omega
              have ne_M_P : GM ≠ GP := Ne.symm ne_P_M
              have HR := Lib.hid (HR.out.below ((Below.refl _ _).alloc (Nat.le_refl _) (.cells #[.int .i64 0, .int .i64 0, .int .i64 0, .int .i64 0] 24))); have HM := Lib.hid (HM.out.below ((Below.refl _ _).alloc (Nat.le_refl _) (.cells #[.int .i64 0, .int .i64 0, .int .i64 0, .int .i64 0] 24))); skip
              have HP : Hid (Bk4 (ywr20x1.alloc (.cells #[.int .i64 0, .int .i64 0, .int .i64 0, .int .i64 0] 24)) GP 0 0 0 0) := by rw [← hGP]; exact bk4_new ywr20x1 0 0 0 0 _
              refine hK.out _ _ (Below.alloc hHeld (Below.size hHeld) _) (fun hHeld2 => ?_); (clear hHeld; rename _ => hHeld; clear hK K; have hHeld : Below wr.heap.size wr _ := hHeld); (try simp only [Act.put, List.getElem_toArray, List.getElem_cons_succ, List.getElem_cons_zero, List.setIfInBounds_toArray, List.set_cons_zero, List.set_cons_succ])
              rw [hGP]; clear hGP; obtain ⟨ywr20x2, hwx⟩ : ∃ wx, ywr20x1.alloc (.cells #[.int .i64 0, .int .i64 0, .int .i64 0, .int .i64 0] 24) = wx := ⟨_, rfl⟩; rw [hwx] at HR HM HP hHeld ⊢; clear hwx
              refine wpAnyH_ready (rs := [10]) (by kernel_rfl) (by simp) ?_; refine AllReadyH.cons rfl (fun K hK => ?_) AllReadyH.nil
              obtain ⟨⟨a0, a1, a2, a3⟩, ⟨f0, f1, f2, f3⟩, az⟩ := HP.out; go_simp; clear a0 f0 a1 f1 a2 f2 a3 f3 az
              have HR := Lib.hid ((((HR.out.far ⟨GP, 0, none⟩ (.int .i64 x0) (by show GR ≠ GP; exact ne_R_P)).far ⟨GP, 1, none⟩ (.int .i64 b) (by show GR ≠ GP; exact ne_R_P)).far ⟨GP, 2, none⟩ (.int .i64 x2) (by show GR ≠ GP; exact ne_R_P)).far ⟨GP, 3, none⟩ (.int .i64 d) (by show GR ≠ GP; exact ne_R_P))
              have HM := Lib.hid ((((HM.out.far ⟨GP, 0, none⟩ (.int .i64 x0) (by show GM ≠ GP; exact ne_M_P)).far ⟨GP, 1, none⟩ (.int .i64 b) (by show GM ≠ GP; exact ne_M_P)).far ⟨GP, 2, none⟩ (.int .i64 x2) (by show GM ≠ GP; exact ne_M_P)).far ⟨GP, 3, none⟩ (.int .i64 d) (by show GM ≠ GP; exact ne_M_P))
              have HP := Lib.hid ((((HP.out.set0 x0).set1 b).set2 x2).set3 d)
              refine hK.out _ _ (Below.setCell (Below.setCell (Below.setCell (Below.setCell hHeld (p := ⟨GP, 0, none⟩) le_P _) (p := ⟨GP, 1, none⟩) le_P _) (p := ⟨GP, 2, none⟩) le_P _) (p := ⟨GP, 3, none⟩) le_P _) (fun hHeld2 => ?_); (clear hHeld; rename _ => hHeld; clear hK K; have hHeld : Below wr.heap.size wr _ := hHeld); (try simp only [Act.put, List.getElem_toArray, List.getElem_cons_succ, List.getElem_cons_zero, List.setIfInBounds_toArray, List.set_cons_zero, List.set_cons_succ])
              obtain ⟨ywr20x3, hwx⟩ : ∃ wx, (((ywr20x2.setCell ⟨GP, 0, none⟩ (.int .i64 x0)).setCell ⟨GP, 1, none⟩ (.int .i64 b)).setCell ⟨GP, 2, none⟩ (.int .i64 x2)).setCell ⟨GP, 3, none⟩ (.int .i64 d) = wx := ⟨_, rfl⟩; rw [hwx] at HR HM HP hHeld ⊢; clear hwx
              (refine wpAnyH_take (i := 11) (v := ?_) rfl (by kernel_rfl) (by kernel_rfl) (by kernel_rfl) (fun _ _ _ h => h) (Or.inl ⟨rfl, ?_⟩) (by assumption) ?_; rotate_left; focus (intro W hSw; (try dsimp only at hSw); have hxx := HXX.out _ hSw; obtain ⟨hxR, hxM⟩ := hxx; obtain ⟨⟨iR0, iR1, iR2, iR3⟩, _, _⟩ := hxR; obtain ⟨⟨iM0, iM1, iM2, iM3⟩, _, _⟩ := hxM; go_simp; try (with_reducible rfl))); (try simp only [Act.put, List.getElem_toArray, List.getElem_cons_succ, List.getElem_cons_zero, List.setIfInBounds_toArray, List.set_cons_zero, List.set_cons_succ])
              refine wpAnyH_done (by kernel_rfl) ?_ _
              have le_P : w.heap.size ≤ GP := Nat.le_trans HB.out.size le_P
              have HB := Lib.hid (HB.out.trans (hHeld.mono HB.out.size))
              clear hHeld HXX
              obtain ⟨⟨qR0, qR1, qR2, qR3⟩, ⟨fR0, fR1, fR2, fR3⟩, zR⟩ := HR.out
              obtain ⟨⟨qM0, qM1, qM2, qM3⟩, ⟨fM0, fM1, fM2, fM3⟩, zM⟩ := HM.out
              obtain ⟨⟨qP0, qP1, qP2, qP3⟩, ⟨fP0, fP1, fP2, fP3⟩, zP⟩ := HP.out
              go_wp2_with fail
              clear qR0 fR0 qR1 fR1 qR2 fR2 qR3 fR3 zR qM0 fM0 qM1 fM1 qM2 fM2 qM3 fM3 zM qP0 fP0 qP1 fP1 qP2 fP2 qP3 fP3 zP
              have HR := Lib.hid ((((HR.out.far ⟨GM, 0, none⟩ (.int .i64 x0) (by show GR ≠ GM; exact ne_R_M)).far ⟨GM, 1, none⟩ (.int .i64 b) (by show GR ≠ GM; exact ne_R_M)).far ⟨GM, 2, none⟩ (.int .i64 x2) (by show GR ≠ GM; exact ne_R_M)).far ⟨GM, 3, none⟩ (.int .i64 d) (by show GR ≠ GM; exact ne_R_M))
              have HP := Lib.hid ((((HP.out.far ⟨GM, 0, none⟩ (.int .i64 x0) (by show GP ≠ GM; exact ne_P_M)).far ⟨GM, 1, none⟩ (.int .i64 b) (by show GP ≠ GM; exact ne_P_M)).far ⟨GM, 2, none⟩ (.int .i64 x2) (by show GP ≠ GM; exact ne_P_M)).far ⟨GM, 3, none⟩ (.int .i64 d) (by show GP ≠ GM; exact ne_P_M))
              have HM := Lib.hid ((((HM.out.set0 x0).set1 b).set2 x2).set3 d)
              have HB := Lib.hid (Below.setCell (Below.setCell (Below.setCell (Below.setCell HB.out (p := ⟨GM, 0, none⟩) le_M (.int .i64 x0)) (p := ⟨GM, 1, none⟩) le_M (.int .i64 b)) (p := ⟨GM, 2, none⟩) le_M (.int .i64 x2)) (p := ⟨GM, 3, none⟩) le_M (.int .i64 d))
              go_roundw
              case rel => exact ⟨i + 1, x0, b, x2, d, by go_num, by omega, HMX2.out, HS2.out, HR.out, HM.out, HB.out⟩
              case measure => simp only [intOf]; omega
            · skip
              go_simp; obtain ⟨GP, hGP⟩ : ∃ G, ywr20x0.heap.size = G := ⟨_, rfl⟩; have le_P : wr.heap.size ≤ GP := by rw [← hGP]; exact Below.size hHeld
              have ne_P_R : GP ≠ GR := by have := HR.out.2.2; omega
              have ne_R_P : GR ≠ GP := Ne.symm ne_P_R
              have ne_P_M : GP ≠ GM := by have := HM.out.2.2; omega
              have ne_M_P : GM ≠ GP := Ne.symm ne_P_M
              have HR := Lib.hid (HR.out.below ((Below.refl _ _).alloc (Nat.le_refl _) (.cells #[.int .i64 0, .int .i64 0, .int .i64 0, .int .i64 0] 24))); have HM := Lib.hid (HM.out.below ((Below.refl _ _).alloc (Nat.le_refl _) (.cells #[.int .i64 0, .int .i64 0, .int .i64 0, .int .i64 0] 24))); skip
              have HP : Hid (Bk4 (ywr20x0.alloc (.cells #[.int .i64 0, .int .i64 0, .int .i64 0, .int .i64 0] 24)) GP 0 0 0 0) := by rw [← hGP]; exact bk4_new ywr20x0 0 0 0 0 _
              refine hK.out _ _ (Below.alloc hHeld (Below.size hHeld) _) (fun hHeld2 => ?_); (clear hHeld; rename _ => hHeld; clear hK K; have hHeld : Below wr.heap.size wr _ := hHeld); (try simp only [Act.put, List.getElem_toArray, List.getElem_cons_succ, List.getElem_cons_zero, List.setIfInBounds_toArray, List.set_cons_zero, List.set_cons_succ])
              rw [hGP]; clear hGP; obtain ⟨ywr20x1, hwx⟩ : ∃ wx, ywr20x0.alloc (.cells #[.int .i64 0, .int .i64 0, .int .i64 0, .int .i64 0] 24) = wx := ⟨_, rfl⟩; rw [hwx] at HR HM HP hHeld ⊢; clear hwx
              refine wpAnyH_ready (rs := [5]) (by kernel_rfl) (by simp) ?_; refine AllReadyH.cons rfl (fun K hK => ?_) AllReadyH.nil
              go_simp; (go_at_call 20; refine (HT.out _).mono ?_; rintro en ywr20x2 ⟨rfl, hb2⟩); have HR := Lib.hid (HR.out.below hb2); have HM := Lib.hid (HM.out.below hb2); have HP := Lib.hid (HP.out.below hb2); refine hK.out _ _ (below_after hb2 hHeld) (fun hHeld2 => ?_); clear hb2; (clear hHeld; rename _ => hHeld; clear hK K; have hHeld : Below wr.heap.size wr _ := hHeld); (try simp only [Act.put, List.getElem_toArray, List.getElem_cons_succ, List.getElem_cons_zero, List.setIfInBounds_toArray, List.set_cons_zero, List.set_cons_succ])
              (refine wpAnyH_take (i := 6) (v := ?_) rfl (by kernel_rfl) (by kernel_rfl) (by kernel_rfl) (fun _ _ _ h => h) (Or.inl ⟨rfl, ?_⟩) (by assumption) ?_; rotate_left; focus (intro W hSw; (try dsimp only at hSw); have hxx := HXX.out _ hSw; obtain ⟨hxR, hxM⟩ := hxx; obtain ⟨⟨iR0, iR1, iR2, iR3⟩, _, _⟩ := hxR; obtain ⟨⟨iM0, iM1, iM2, iM3⟩, _, _⟩ := hxM; go_simp; try (with_reducible rfl))); (try simp only [Act.put, List.getElem_toArray, List.getElem_cons_succ, List.getElem_cons_zero, List.setIfInBounds_toArray, List.set_cons_zero, List.set_cons_succ])
              (refine wpAnyH_take (i := 7) (v := ?_) rfl (by kernel_rfl) (by kernel_rfl) (by kernel_rfl) (fun _ _ _ h => h) (Or.inl ⟨rfl, ?_⟩) (by assumption) ?_; rotate_left; focus (intro W hSw; (try dsimp only at hSw); have hxx := HXX.out _ hSw; obtain ⟨hxR, hxM⟩ := hxx; obtain ⟨⟨iR0, iR1, iR2, iR3⟩, _, _⟩ := hxR; obtain ⟨⟨iM0, iM1, iM2, iM3⟩, _, _⟩ := hxM; go_simp; try (with_reducible rfl))); (try simp only [Act.put, List.getElem_toArray, List.getElem_cons_succ, List.getElem_cons_zero, List.setIfInBounds_toArray, List.set_cons_zero, List.set_cons_succ])
              (refine wpAnyH_take (i := 8) (v := ?_) rfl (by kernel_rfl) (by kernel_rfl) (by kernel_rfl) (fun _ _ _ h => h) (Or.inl ⟨rfl, ?_⟩) (by assumption) ?_; rotate_left; focus (intro W hSw; (try dsimp only at hSw); have hxx := HXX.out _ hSw; obtain ⟨hxR, hxM⟩ := hxx; obtain ⟨⟨iR0, iR1, iR2, iR3⟩, _, _⟩ := hxR; obtain ⟨⟨iM0, iM1, iM2, iM3⟩, _, _⟩ := hxM; go_simp; try (with_reducible rfl))); (try simp only [Act.put, List.getElem_toArray, List.getElem_cons_succ, List.getElem_cons_zero, List.setIfInBounds_toArray, List.set_cons_zero, List.set_cons_succ])
              refine wpAnyH_ready (rs := [10]) (by kernel_rfl) (by simp) ?_; refine AllReadyH.cons rfl (fun K hK => ?_) AllReadyH.nil
              obtain ⟨⟨a0, a1, a2, a3⟩, ⟨f0, f1, f2, f3⟩, az⟩ := HP.out; go_simp; clear a0 f0 a1 f1 a2 f2 a3 f3 az
              have HR := Lib.hid ((((HR.out.far ⟨GP, 0, none⟩ (.int .i64 x0) (by show GR ≠ GP; exact ne_R_P)).far ⟨GP, 1, none⟩ (.int .i64 b) (by show GR ≠ GP; exact ne_R_P)).far ⟨GP, 2, none⟩ (.int .i64 x2) (by show GR ≠ GP; exact ne_R_P)).far ⟨GP, 3, none⟩ (.int .i64 d) (by show GR ≠ GP; exact ne_R_P))
              have HM := Lib.hid ((((HM.out.far ⟨GP, 0, none⟩ (.int .i64 x0) (by show GM ≠ GP; exact ne_M_P)).far ⟨GP, 1, none⟩ (.int .i64 b) (by show GM ≠ GP; exact ne_M_P)).far ⟨GP, 2, none⟩ (.int .i64 x2) (by show GM ≠ GP; exact ne_M_P)).far ⟨GP, 3, none⟩ (.int .i64 d) (by show GM ≠ GP; exact ne_M_P))
              have HP := Lib.hid ((((HP.out.set0 x0).set1 b).set2 x2).set3 d)
              refine hK.out _ _ (Below.setCell (Below.setCell (Below.setCell (Below.setCell hHeld (p := ⟨GP, 0, none⟩) le_P _) (p := ⟨GP, 1, none⟩) le_P _) (p := ⟨GP, 2, none⟩) le_P _) (p := ⟨GP, 3, none⟩) le_P _) (fun hHeld2 => ?_); (clear hHeld; rename _ => hHeld; clear hK K; have hHeld : Below wr.heap.size wr _ := hHeld); (try simp only [Act.put, List.getElem_toArray, List.getElem_cons_succ, List.getElem_cons_zero, List.setIfInBounds_toArray, List.set_cons_zero, List.set_cons_succ])
              obtain ⟨ywr20x3, hwx⟩ : ∃ wx, (((ywr20x2.setCell ⟨GP, 0, none⟩ (.int .i64 x0)).setCell ⟨GP, 1, none⟩ (.int .i64 b)).setCell ⟨GP, 2, none⟩ (.int .i64 x2)).setCell ⟨GP, 3, none⟩ (.int .i64 d) = wx := ⟨_, rfl⟩; rw [hwx] at HR HM HP hHeld ⊢; clear hwx
              (refine wpAnyH_take (i := 11) (v := ?_) rfl (by kernel_rfl) (by kernel_rfl) (by kernel_rfl) (fun _ _ _ h => h) (Or.inl ⟨rfl, ?_⟩) (by assumption) ?_; rotate_left; focus (intro W hSw; (try dsimp only at hSw); have hxx := HXX.out _ hSw; obtain ⟨hxR, hxM⟩ := hxx; obtain ⟨⟨iR0, iR1, iR2, iR3⟩, _, _⟩ := hxR; obtain ⟨⟨iM0, iM1, iM2, iM3⟩, _, _⟩ := hxM; go_simp; try (with_reducible rfl))); (try simp only [Act.put, List.getElem_toArray, List.getElem_cons_succ, List.getElem_cons_zero, List.setIfInBounds_toArray, List.set_cons_zero, List.set_cons_succ])
              refine wpAnyH_done (by kernel_rfl) ?_ _
              have le_P : w.heap.size ≤ GP := Nat.le_trans HB.out.size le_P
              have HB := Lib.hid (HB.out.trans (hHeld.mono HB.out.size))
              clear hHeld HXX
              obtain ⟨⟨qR0, qR1, qR2, qR3⟩, ⟨fR0, fR1, fR2, fR3⟩, zR⟩ := HR.out
              obtain ⟨⟨qM0, qM1, qM2, qM3⟩, ⟨fM0, fM1, fM2, fM3⟩, zM⟩ := HM.out
              obtain ⟨⟨qP0, qP1, qP2, qP3⟩, ⟨fP0, fP1, fP2, fP3⟩, zP⟩ := HP.out
              go_wp2_with fail
              clear qR0 fR0 qR1 fR1 qR2 fR2 qR3 fR3 zR qM0 fM0 qM1 fM1 qM2 fM2 qM3 fM3 zM qP0 fP0 qP1 fP1 qP2 fP2 qP3 fP3 zP
              have HR := Lib.hid ((((HR.out.far ⟨GM, 0, none⟩ (.int .i64 x0) (by show GR ≠ GM; exact ne_R_M)).far ⟨GM, 1, none⟩ (.int .i64 b) (by show GR ≠ GM; exact ne_R_M)).far ⟨GM, 2, none⟩ (.int .i64 x2) (by show GR ≠ GM; exact ne_R_M)).far ⟨GM, 3, none⟩ (.int .i64 d) (by show GR ≠ GM; exact ne_R_M))
              have HP := Lib.hid ((((HP.out.far ⟨GM, 0, none⟩ (.int .i64 x0) (by show GP ≠ GM; exact ne_P_M)).far ⟨GM, 1, none⟩ (.int .i64 b) (by show GP ≠ GM; exact ne_P_M)).far ⟨GM, 2, none⟩ (.int .i64 x2) (by show GP ≠ GM; exact ne_P_M)).far ⟨GM, 3, none⟩ (.int .i64 d) (by show GP ≠ GM; exact ne_P_M))
              have HM := Lib.hid ((((HM.out.set0 x0).set1 b).set2 x2).set3 d)
              have HB := Lib.hid (Below.setCell (Below.setCell (Below.setCell (Below.setCell HB.out (p := ⟨GM, 0, none⟩) le_M (.int .i64 x0)) (p := ⟨GM, 1, none⟩) le_M (.int .i64 b)) (p := ⟨GM, 2, none⟩) le_M (.int .i64 x2)) (p := ⟨GM, 3, none⟩) le_M (.int .i64 d))
              go_roundw
              case rel => exact ⟨i + 1, x0, b, x2, d, by go_num, by omega, HMX2.out, HS2.out, HR.out, HM.out, HB.out⟩
              case measure => simp only [intOf]; omega
          · skip
            go_simp; obtain ⟨GP, hGP⟩ : ∃ G, wD20.heap.size = G := ⟨_, rfl⟩; have le_P : wr.heap.size ≤ GP := by rw [← hGP]; exact Below.size hHeld
            have ne_P_R : GP ≠ GR := by have := HR.out.2.2; omega
            have ne_R_P : GR ≠ GP := Ne.symm ne_P_R
            have ne_P_M : GP ≠ GM := by have := HM.out.2.2; omega
            have ne_M_P : GM ≠ GP := Ne.symm ne_P_M
            have HR := Lib.hid (HR.out.below ((Below.refl _ _).alloc (Nat.le_refl _) (.cells #[.int .i64 0, .int .i64 0, .int .i64 0, .int .i64 0] 24))); have HM := Lib.hid (HM.out.below ((Below.refl _ _).alloc (Nat.le_refl _) (.cells #[.int .i64 0, .int .i64 0, .int .i64 0, .int .i64 0] 24))); skip
            have HP : Hid (Bk4 (wD20.alloc (.cells #[.int .i64 0, .int .i64 0, .int .i64 0, .int .i64 0] 24)) GP 0 0 0 0) := by rw [← hGP]; exact bk4_new wD20 0 0 0 0 _
            refine hK.out _ _ (Below.alloc hHeld (Below.size hHeld) _) (fun hHeld2 => ?_); (clear hHeld; rename _ => hHeld; clear hK K; have hHeld : Below wr.heap.size wr _ := hHeld); (try simp only [Act.put, List.getElem_toArray, List.getElem_cons_succ, List.getElem_cons_zero, List.setIfInBounds_toArray, List.set_cons_zero, List.set_cons_succ])
            rw [hGP]; clear hGP; obtain ⟨ywr20x0, hwx⟩ : ∃ wx, wD20.alloc (.cells #[.int .i64 0, .int .i64 0, .int .i64 0, .int .i64 0] 24) = wx := ⟨_, rfl⟩; rw [hwx] at HR HM HP hHeld ⊢; clear hwx
            refine wpAnyH_ready (rs := [4]) (by kernel_rfl) (by simp) ?_; refine AllReadyH.cons rfl (fun K hK => ?_) AllReadyH.nil
            go_simp; (go_at_call 21; refine (letter_L _).mono ?_; rintro en ywr20x1 ⟨rfl, hb2⟩); have HR := Lib.hid (HR.out.below hb2); have HM := Lib.hid (HM.out.below hb2); have HP := Lib.hid (HP.out.below hb2); refine hK.out _ _ (below_after hb2 hHeld) (fun hHeld2 => ?_); clear hb2; (clear hHeld; rename _ => hHeld; clear hK K; have hHeld : Below wr.heap.size wr _ := hHeld); (try simp only [Act.put, List.getElem_toArray, List.getElem_cons_succ, List.getElem_cons_zero, List.setIfInBounds_toArray, List.set_cons_zero, List.set_cons_succ])
            refine wpAnyH_ready (rs := [5]) (by kernel_rfl) (by simp) ?_; refine AllReadyH.cons rfl (fun K hK => ?_) AllReadyH.nil
            go_simp; (go_at_call 20; refine (HT.out _).mono ?_; rintro en ywr20x2 ⟨rfl, hb2⟩); have HR := Lib.hid (HR.out.below hb2); have HM := Lib.hid (HM.out.below hb2); have HP := Lib.hid (HP.out.below hb2); refine hK.out _ _ (below_after hb2 hHeld) (fun hHeld2 => ?_); clear hb2; (clear hHeld; rename _ => hHeld; clear hK K; have hHeld : Below wr.heap.size wr _ := hHeld); (try simp only [Act.put, List.getElem_toArray, List.getElem_cons_succ, List.getElem_cons_zero, List.setIfInBounds_toArray, List.set_cons_zero, List.set_cons_succ])
            (refine wpAnyH_take (i := 6) (v := ?_) rfl (by kernel_rfl) (by kernel_rfl) (by kernel_rfl) (fun _ _ _ h => h) (Or.inl ⟨rfl, ?_⟩) (by assumption) ?_; rotate_left; focus (intro W hSw; (try dsimp only at hSw); have hxx := HXX.out _ hSw; obtain ⟨hxR, hxM⟩ := hxx; obtain ⟨⟨iR0, iR1, iR2, iR3⟩, _, _⟩ := hxR; obtain ⟨⟨iM0, iM1, iM2, iM3⟩, _, _⟩ := hxM; go_simp; try (with_reducible rfl))); (try simp only [Act.put, List.getElem_toArray, List.getElem_cons_succ, List.getElem_cons_zero, List.setIfInBounds_toArray, List.set_cons_zero, List.set_cons_succ])
            (refine wpAnyH_take (i := 7) (v := ?_) rfl (by kernel_rfl) (by kernel_rfl) (by kernel_rfl) (fun _ _ _ h => h) (Or.inl ⟨rfl, ?_⟩) (by assumption) ?_; rotate_left; focus (intro W hSw; (try dsimp only at hSw); have hxx := HXX.out _ hSw; obtain ⟨hxR, hxM⟩ := hxx; obtain ⟨⟨iR0, iR1, iR2, iR3⟩, _, _⟩ := hxR; obtain ⟨⟨iM0, iM1, iM2, iM3⟩, _, _⟩ := hxM; go_simp; try (with_reducible rfl))); (try simp only [Act.put, List.getElem_toArray, List.getElem_cons_succ, List.getElem_cons_zero, List.setIfInBounds_toArray, List.set_cons_zero, List.set_cons_succ])
            (refine wpAnyH_take (i := 8) (v := ?_) rfl (by kernel_rfl) (by kernel_rfl) (by kernel_rfl) (fun _ _ _ h => h) (Or.inl ⟨rfl, ?_⟩) (by assumption) ?_; rotate_left; focus (intro W hSw; (try dsimp only at hSw); have hxx := HXX.out _ hSw; obtain ⟨hxR, hxM⟩ := hxx; obtain ⟨⟨iR0, iR1, iR2, iR3⟩, _, _⟩ := hxR; obtain ⟨⟨iM0, iM1, iM2, iM3⟩, _, _⟩ := hxM; go_simp; try (with_reducible rfl))); (try simp only [Act.put, List.getElem_toArray, List.getElem_cons_succ, List.getElem_cons_zero, List.setIfInBounds_toArray, List.set_cons_zero, List.set_cons_succ])
            refine wpAnyH_ready (rs := [10]) (by kernel_rfl) (by simp) ?_; refine AllReadyH.cons rfl (fun K hK => ?_) AllReadyH.nil
            obtain ⟨⟨a0, a1, a2, a3⟩, ⟨f0, f1, f2, f3⟩, az⟩ := HP.out; go_simp; clear a0 f0 a1 f1 a2 f2 a3 f3 az
            have HR := Lib.hid ((((HR.out.far ⟨GP, 0, none⟩ (.int .i64 x0) (by show GR ≠ GP; exact ne_R_P)).far ⟨GP, 1, none⟩ (.int .i64 b) (by show GR ≠ GP; exact ne_R_P)).far ⟨GP, 2, none⟩ (.int .i64 x2) (by show GR ≠ GP; exact ne_R_P)).far ⟨GP, 3, none⟩ (.int .i64 d) (by show GR ≠ GP; exact ne_R_P))
            have HM := Lib.hid ((((HM.out.far ⟨GP, 0, none⟩ (.int .i64 x0) (by show GM ≠ GP; exact ne_M_P)).far ⟨GP, 1, none⟩ (.int .i64 b) (by show GM ≠ GP; exact ne_M_P)).far ⟨GP, 2, none⟩ (.int .i64 x2) (by show GM ≠ GP; exact ne_M_P)).far ⟨GP, 3, none⟩ (.int .i64 d) (by show GM ≠ GP; exact ne_M_P))
            have HP := Lib.hid ((((HP.out.set0 x0).set1 b).set2 x2).set3 d)
            refine hK.out _ _ (Below.setCell (Below.setCell (Below.setCell (Below.setCell hHeld (p := ⟨GP, 0, none⟩) le_P _) (p := ⟨GP, 1, none⟩) le_P _) (p := ⟨GP, 2, none⟩) le_P _) (p := ⟨GP, 3, none⟩) le_P _) (fun hHeld2 => ?_); (clear hHeld; rename _ => hHeld; clear hK K; have hHeld : Below wr.heap.size wr _ := hHeld); (try simp only [Act.put, List.getElem_toArray, List.getElem_cons_succ, List.getElem_cons_zero, List.setIfInBounds_toArray, List.set_cons_zero, List.set_cons_succ])
            obtain ⟨ywr20x3, hwx⟩ : ∃ wx, (((ywr20x2.setCell ⟨GP, 0, none⟩ (.int .i64 x0)).setCell ⟨GP, 1, none⟩ (.int .i64 b)).setCell ⟨GP, 2, none⟩ (.int .i64 x2)).setCell ⟨GP, 3, none⟩ (.int .i64 d) = wx := ⟨_, rfl⟩; rw [hwx] at HR HM HP hHeld ⊢; clear hwx
            (refine wpAnyH_take (i := 11) (v := ?_) rfl (by kernel_rfl) (by kernel_rfl) (by kernel_rfl) (fun _ _ _ h => h) (Or.inl ⟨rfl, ?_⟩) (by assumption) ?_; rotate_left; focus (intro W hSw; (try dsimp only at hSw); have hxx := HXX.out _ hSw; obtain ⟨hxR, hxM⟩ := hxx; obtain ⟨⟨iR0, iR1, iR2, iR3⟩, _, _⟩ := hxR; obtain ⟨⟨iM0, iM1, iM2, iM3⟩, _, _⟩ := hxM; go_simp; try (with_reducible rfl))); (try simp only [Act.put, List.getElem_toArray, List.getElem_cons_succ, List.getElem_cons_zero, List.setIfInBounds_toArray, List.set_cons_zero, List.set_cons_succ])
            refine wpAnyH_done (by kernel_rfl) ?_ _
            have le_P : w.heap.size ≤ GP := Nat.le_trans HB.out.size le_P
            have HB := Lib.hid (HB.out.trans (hHeld.mono HB.out.size))
            clear hHeld HXX
            obtain ⟨⟨qR0, qR1, qR2, qR3⟩, ⟨fR0, fR1, fR2, fR3⟩, zR⟩ := HR.out
            obtain ⟨⟨qM0, qM1, qM2, qM3⟩, ⟨fM0, fM1, fM2, fM3⟩, zM⟩ := HM.out
            obtain ⟨⟨qP0, qP1, qP2, qP3⟩, ⟨fP0, fP1, fP2, fP3⟩, zP⟩ := HP.out
            go_wp2_with fail
            clear qR0 fR0 qR1 fR1 qR2 fR2 qR3 fR3 zR qM0 fM0 qM1 fM1 qM2 fM2 qM3 fM3 zM qP0 fP0 qP1 fP1 qP2 fP2 qP3 fP3 zP
            have HR := Lib.hid ((((HR.out.far ⟨GM, 0, none⟩ (.int .i64 x0) (by show GR ≠ GM; exact ne_R_M)).far ⟨GM, 1, none⟩ (.int .i64 b) (by show GR ≠ GM; exact ne_R_M)).far ⟨GM, 2, none⟩ (.int .i64 x2) (by show GR ≠ GM; exact ne_R_M)).far ⟨GM, 3, none⟩ (.int .i64 d) (by show GR ≠ GM; exact ne_R_M))
            have HP := Lib.hid ((((HP.out.far ⟨GM, 0, none⟩ (.int .i64 x0) (by show GP ≠ GM; exact ne_P_M)).far ⟨GM, 1, none⟩ (.int .i64 b) (by show GP ≠ GM; exact ne_P_M)).far ⟨GM, 2, none⟩ (.int .i64 x2) (by show GP ≠ GM; exact ne_P_M)).far ⟨GM, 3, none⟩ (.int .i64 d) (by show GP ≠ GM; exact ne_P_M))
            have HM := Lib.hid ((((HM.out.set0 x0).set1 b).set2 x2).set3 d)
            have HB := Lib.hid (Below.setCell (Below.setCell (Below.setCell (Below.setCell HB.out (p := ⟨GM, 0, none⟩) le_M (.int .i64 x0)) (p := ⟨GM, 1, none⟩) le_M (.int .i64 b)) (p := ⟨GM, 2, none⟩) le_M (.int .i64 x2)) (p := ⟨GM, 3, none⟩) le_M (.int .i64 d))
            go_roundw
            case rel => exact ⟨i + 1, x0, b, x2, d, by go_num, by omega, HMX2.out, HS2.out, HR.out, HM.out, HB.out⟩
            case measure => simp only [intOf]; omega
      · skip
        have HS := HW.out
        rw [wm_R hil (HI.out hil)] at HS
        have HT : Hid (∀ w, Calls Tryd.prog 20 #[.agg #[.int .i64 a, .int .i64 b, .int .i64 c, .int .i64 d], .agg #[.int .i64 1, .int .i64 1, .int .i64 0, .int .i64 1]] w fun e w' => e = .returned (wmV (if isMx a (a + b) c (c + d) = true then some (a, a + b, c, c + d) else none) (.int .i64 0) (.int .i64 3)) ∧ Below w.heap.size w w') := fun w => mult_R a b c d w HMX.out
        clear HI
        obtain ⟨x1, hx1⟩ : ∃ z, a + b = z := ⟨_, rfl⟩
        obtain ⟨x3, hx3⟩ : ∃ z, c + d = z := ⟨_, rfl⟩
        rw [hx1, hx3] at HT HS
        clear hx1 hx3
        cases hmq : isMx a x1 c x3
        · rw [hmq] at HS
          have HT : Hid (∀ w, Calls Tryd.prog 20 #[.agg #[.int .i64 a, .int .i64 b, .int .i64 c, .int .i64 d], .agg #[.int .i64 1, .int .i64 1, .int .i64 0, .int .i64 1]] w fun e w' => e = .returned (.tuple #[.agg #[.int .i64 0, .int .i64 0, .int .i64 0, .int .i64 0], .int .i64 3]) ∧ Below w.heap.size w w') := fun w => by
            have := HT.out w
            rwa [hmq, if_neg (by decide)] at this
          have HS2 : Hid (none = W) := by rw [if_neg (by decide)] at HS; exact HS
          clear HS hmq
          have HXX : Hid (∀ W, Below wr.heap.size wr W → Bk4 W GR 0 0 0 0 ∧ Bk4 W GM a b c d) := fun W hW => ⟨HR.out.below hW, HM.out.below hW⟩
          go_wp2_with fail
          refine wp_region_held_drew (S := fun W => Below wr.heap.size wr W) (by kernel_rfl) ?_ (fun hHeld => ?_); focus ((try dsimp only); exact (Below.refl _ _).drew)
          have HR := Lib.hid (HR.out.below (Below.drew (Below.refl _ _)))
          have HM := Lib.hid (HM.out.below (Below.drew (Below.refl _ _)))
          have hHeld : Below wr.heap.size wr _ := hHeld
          obtain ⟨wD20, hwD20⟩ : ∃ wD, wr.drew = wD := ⟨_, rfl⟩
          rw [hwD20] at hHeld HR HM ⊢
          clear hwD20
          (refine wpAnyH_take (i := 0) (v := ?_) rfl (by kernel_rfl) (by kernel_rfl) (by kernel_rfl) (fun _ _ _ h => h) (Or.inl ⟨rfl, ?_⟩) (by assumption) ?_; rotate_left; focus (intro W hSw; (try dsimp only at hSw); have hxx := HXX.out _ hSw; obtain ⟨hxR, hxM⟩ := hxx; obtain ⟨⟨iR0, iR1, iR2, iR3⟩, _, _⟩ := hxR; obtain ⟨⟨iM0, iM1, iM2, iM3⟩, _, _⟩ := hxM; go_simp; try (with_reducible rfl))); (try simp only [Act.put, List.getElem_toArray, List.getElem_cons_succ, List.getElem_cons_zero, List.setIfInBounds_toArray, List.set_cons_zero, List.set_cons_succ])
          (refine wpAnyH_take (i := 1) (v := ?_) rfl (by kernel_rfl) (by kernel_rfl) (by kernel_rfl) (fun _ _ _ h => h) (Or.inl ⟨rfl, ?_⟩) (by assumption) ?_; rotate_left; focus (intro W hSw; (try dsimp only at hSw); have hxx := HXX.out _ hSw; obtain ⟨hxR, hxM⟩ := hxx; obtain ⟨⟨iR0, iR1, iR2, iR3⟩, _, _⟩ := hxR; obtain ⟨⟨iM0, iM1, iM2, iM3⟩, _, _⟩ := hxM; go_simp; try (with_reducible rfl))); (try simp only [Act.put, List.getElem_toArray, List.getElem_cons_succ, List.getElem_cons_zero, List.setIfInBounds_toArray, List.set_cons_zero, List.set_cons_succ])
          (refine wpAnyH_take (i := 2) (v := ?_) rfl (by kernel_rfl) (by kernel_rfl) (by kernel_rfl) (fun _ _ _ h => h) (Or.inl ⟨rfl, ?_⟩) (by assumption) ?_; rotate_left; focus (intro W hSw; (try dsimp only at hSw); have hxx := HXX.out _ hSw; obtain ⟨hxR, hxM⟩ := hxx; obtain ⟨⟨iR0, iR1, iR2, iR3⟩, _, _⟩ := hxR; obtain ⟨⟨iM0, iM1, iM2, iM3⟩, _, _⟩ := hxM; go_simp; try (with_reducible rfl))); (try simp only [Act.put, List.getElem_toArray, List.getElem_cons_succ, List.getElem_cons_zero, List.setIfInBounds_toArray, List.set_cons_zero, List.set_cons_succ])
          (refine wpAnyH_take (i := 3) (v := ?_) rfl (by kernel_rfl) (by kernel_rfl) (by kernel_rfl) (fun _ _ _ h => h) (Or.inl ⟨rfl, ?_⟩) (by assumption) ?_; rotate_left; focus (intro W hSw; (try dsimp only at hSw); have hxx := HXX.out _ hSw; obtain ⟨hxR, hxM⟩ := hxx; obtain ⟨⟨iR0, iR1, iR2, iR3⟩, _, _⟩ := hxR; obtain ⟨⟨iM0, iM1, iM2, iM3⟩, _, _⟩ := hxM; go_simp; try (with_reducible rfl))); (try simp only [Act.put, List.getElem_toArray, List.getElem_cons_succ, List.getElem_cons_zero, List.setIfInBounds_toArray, List.set_cons_zero, List.set_cons_succ])
          refine wpAnyH_ready (rs := [4, 9]) (by kernel_rfl) (by simp) ?_; refine AllReadyH.cons rfl (fun K hK => ?_) (AllReadyH.cons rfl (fun K hK => ?_) AllReadyH.nil)
          · skip
            go_simp; (go_at_call 21; refine (letter_R _).mono ?_; rintro en ywr20x0 ⟨rfl, hb2⟩); have HR := Lib.hid (HR.out.below hb2); have HM := Lib.hid (HM.out.below hb2); refine hK.out _ _ (below_after hb2 hHeld) (fun hHeld2 => ?_); clear hb2; (clear hHeld; rename _ => hHeld; clear hK K; have hHeld : Below wr.heap.size wr _ := hHeld); (try simp only [Act.put, List.getElem_toArray, List.getElem_cons_succ, List.getElem_cons_zero, List.setIfInBounds_toArray, List.set_cons_zero, List.set_cons_succ])
            refine wpAnyH_ready (rs := [5, 9]) (by kernel_rfl) (by simp) ?_; refine AllReadyH.cons rfl (fun K hK => ?_) (AllReadyH.cons rfl (fun K hK => ?_) AllReadyH.nil)
            · skip
              go_simp; (go_at_call 20; refine (HT.out _).mono ?_; rintro en ywr20x1 ⟨rfl, hb2⟩); have HR := Lib.hid (HR.out.below hb2); have HM := Lib.hid (HM.out.below hb2); refine hK.out _ _ (below_after hb2 hHeld) (fun hHeld2 => ?_); clear hb2; (clear hHeld; rename _ => hHeld; clear hK K; have hHeld : Below wr.heap.size wr _ := hHeld); (try simp only [Act.put, List.getElem_toArray, List.getElem_cons_succ, List.getElem_cons_zero, List.setIfInBounds_toArray, List.set_cons_zero, List.set_cons_succ])
              (refine wpAnyH_take (i := 6) (v := ?_) rfl (by kernel_rfl) (by kernel_rfl) (by kernel_rfl) (fun _ _ _ h => h) (Or.inl ⟨rfl, ?_⟩) (by assumption) ?_; rotate_left; focus (intro W hSw; (try dsimp only at hSw); have hxx := HXX.out _ hSw; obtain ⟨hxR, hxM⟩ := hxx; obtain ⟨⟨iR0, iR1, iR2, iR3⟩, _, _⟩ := hxR; obtain ⟨⟨iM0, iM1, iM2, iM3⟩, _, _⟩ := hxM; go_simp; try (with_reducible rfl))); (try simp only [Act.put, List.getElem_toArray, List.getElem_cons_succ, List.getElem_cons_zero, List.setIfInBounds_toArray, List.set_cons_zero, List.set_cons_succ])
              (refine wpAnyH_take (i := 7) (v := ?_) rfl (by kernel_rfl) (by kernel_rfl) (by kernel_rfl) (fun _ _ _ h => h) (Or.inl ⟨rfl, ?_⟩) (by assumption) ?_; rotate_left; focus (intro W hSw; (try dsimp only at hSw); have hxx := HXX.out _ hSw; obtain ⟨hxR, hxM⟩ := hxx; obtain ⟨⟨iR0, iR1, iR2, iR3⟩, _, _⟩ := hxR; obtain ⟨⟨iM0, iM1, iM2, iM3⟩, _, _⟩ := hxM; go_simp; try (with_reducible rfl))); (try simp only [Act.put, List.getElem_toArray, List.getElem_cons_succ, List.getElem_cons_zero, List.setIfInBounds_toArray, List.set_cons_zero, List.set_cons_succ])
              (refine wpAnyH_take (i := 8) (v := ?_) rfl (by kernel_rfl) (by kernel_rfl) (by kernel_rfl) (fun _ _ _ h => h) (Or.inl ⟨rfl, ?_⟩) (by assumption) ?_; rotate_left; focus (intro W hSw; (try dsimp only at hSw); have hxx := HXX.out _ hSw; obtain ⟨hxR, hxM⟩ := hxx; obtain ⟨⟨iR0, iR1, iR2, iR3⟩, _, _⟩ := hxR; obtain ⟨⟨iM0, iM1, iM2, iM3⟩, _, _⟩ := hxM; go_simp; try (with_reducible rfl))); (try simp only [Act.put, List.getElem_toArray, List.getElem_cons_succ, List.getElem_cons_zero, List.setIfInBounds_toArray, List.set_cons_zero, List.set_cons_succ])
              refine wpAnyH_ready (rs := [9]) (by kernel_rfl) (by simp) ?_; refine AllReadyH.cons rfl (fun K hK => ?_) AllReadyH.nil
              go_simp; obtain ⟨GP, hGP⟩ : ∃ G, ywr20x1.heap.size = G := ⟨_, rfl⟩; have le_P : wr.heap.size ≤ GP := by rw [← hGP]; exact Below.size hHeld
              have ne_P_R : GP ≠ GR := by have := HR.out.2.2; omega
              have ne_R_P : GR ≠ GP := Ne.symm ne_P_R
              have ne_P_M : GP ≠ GM := by have := HM.out.2.2; omega
              have ne_M_P : GM ≠ GP := Ne.symm ne_P_M
              have HR := Lib.hid (HR.out.below ((Below.refl _ _).alloc (Nat.le_refl _) (.cells #[.int .i64 0, .int .i64 0, .int .i64 0, .int .i64 0] 24))); have HM := Lib.hid (HM.out.below ((Below.refl _ _).alloc (Nat.le_refl _) (.cells #[.int .i64 0, .int .i64 0, .int .i64 0, .int .i64 0] 24))); skip
              have HP : Hid (Bk4 (ywr20x1.alloc (.cells #[.int .i64 0, .int .i64 0, .int .i64 0, .int .i64 0] 24)) GP 0 0 0 0) := by rw [← hGP]; exact bk4_new ywr20x1 0 0 0 0 _
              refine hK.out _ _ (Below.alloc hHeld (Below.size hHeld) _) (fun hHeld2 => ?_); (clear hHeld; rename _ => hHeld; clear hK K; have hHeld : Below wr.heap.size wr _ := hHeld); (try simp only [Act.put, List.getElem_toArray, List.getElem_cons_succ, List.getElem_cons_zero, List.setIfInBounds_toArray, List.set_cons_zero, List.set_cons_succ])
              rw [hGP]; clear hGP; obtain ⟨ywr20x2, hwx⟩ : ∃ wx, ywr20x1.alloc (.cells #[.int .i64 0, .int .i64 0, .int .i64 0, .int .i64 0] 24) = wx := ⟨_, rfl⟩; rw [hwx] at HR HM HP hHeld ⊢; clear hwx
              refine wpAnyH_ready (rs := [10]) (by kernel_rfl) (by simp) ?_; refine AllReadyH.cons rfl (fun K hK => ?_) AllReadyH.nil
              obtain ⟨⟨a0, a1, a2, a3⟩, ⟨f0, f1, f2, f3⟩, az⟩ := HP.out; go_simp; clear a0 f0 a1 f1 a2 f2 a3 f3 az
              have HR := Lib.hid ((((HR.out.far ⟨GP, 0, none⟩ (.int .i64 0) (by show GR ≠ GP; exact ne_R_P)).far ⟨GP, 1, none⟩ (.int .i64 0) (by show GR ≠ GP; exact ne_R_P)).far ⟨GP, 2, none⟩ (.int .i64 0) (by show GR ≠ GP; exact ne_R_P)).far ⟨GP, 3, none⟩ (.int .i64 0) (by show GR ≠ GP; exact ne_R_P))
              have HM := Lib.hid ((((HM.out.far ⟨GP, 0, none⟩ (.int .i64 0) (by show GM ≠ GP; exact ne_M_P)).far ⟨GP, 1, none⟩ (.int .i64 0) (by show GM ≠ GP; exact ne_M_P)).far ⟨GP, 2, none⟩ (.int .i64 0) (by show GM ≠ GP; exact ne_M_P)).far ⟨GP, 3, none⟩ (.int .i64 0) (by show GM ≠ GP; exact ne_M_P))
              have HP := Lib.hid ((((HP.out.set0 0).set1 0).set2 0).set3 0)
              refine hK.out _ _ (Below.setCell (Below.setCell (Below.setCell (Below.setCell hHeld (p := ⟨GP, 0, none⟩) le_P _) (p := ⟨GP, 1, none⟩) le_P _) (p := ⟨GP, 2, none⟩) le_P _) (p := ⟨GP, 3, none⟩) le_P _) (fun hHeld2 => ?_); (clear hHeld; rename _ => hHeld; clear hK K; have hHeld : Below wr.heap.size wr _ := hHeld); (try simp only [Act.put, List.getElem_toArray, List.getElem_cons_succ, List.getElem_cons_zero, List.setIfInBounds_toArray, List.set_cons_zero, List.set_cons_succ])
              obtain ⟨ywr20x3, hwx⟩ : ∃ wx, (((ywr20x2.setCell ⟨GP, 0, none⟩ (.int .i64 0)).setCell ⟨GP, 1, none⟩ (.int .i64 0)).setCell ⟨GP, 2, none⟩ (.int .i64 0)).setCell ⟨GP, 3, none⟩ (.int .i64 0) = wx := ⟨_, rfl⟩; rw [hwx] at HR HM HP hHeld ⊢; clear hwx
              (refine wpAnyH_take (i := 11) (v := ?_) rfl (by kernel_rfl) (by kernel_rfl) (by kernel_rfl) (fun _ _ _ h => h) (Or.inl ⟨rfl, ?_⟩) (by assumption) ?_; rotate_left; focus (intro W hSw; (try dsimp only at hSw); have hxx := HXX.out _ hSw; obtain ⟨hxR, hxM⟩ := hxx; obtain ⟨⟨iR0, iR1, iR2, iR3⟩, _, _⟩ := hxR; obtain ⟨⟨iM0, iM1, iM2, iM3⟩, _, _⟩ := hxM; go_simp; try (with_reducible rfl))); (try simp only [Act.put, List.getElem_toArray, List.getElem_cons_succ, List.getElem_cons_zero, List.setIfInBounds_toArray, List.set_cons_zero, List.set_cons_succ])
              refine wpAnyH_done (by kernel_rfl) ?_ _
              have le_P : w.heap.size ≤ GP := Nat.le_trans HB.out.size le_P
              have HB := Lib.hid (HB.out.trans (hHeld.mono HB.out.size))
              clear hHeld HXX
              obtain ⟨⟨qR0, qR1, qR2, qR3⟩, ⟨fR0, fR1, fR2, fR3⟩, zR⟩ := HR.out
              obtain ⟨⟨qM0, qM1, qM2, qM3⟩, ⟨fM0, fM1, fM2, fM3⟩, zM⟩ := HM.out
              obtain ⟨⟨qP0, qP1, qP2, qP3⟩, ⟨fP0, fP1, fP2, fP3⟩, zP⟩ := HP.out
              go_wp2_with fail
              refine bodyPost_ret (v := .tuple #[.agg #[.int .i64 0, .int .i64 0, .int .i64 0, .int .i64 0], .int .i64 3]) (by simp (maxDischargeDepth := 8) [results, Tryd.results7, go_sem, *]) rfl ?_
              have hb := HB.out
              exact ⟨by rw [← HS2.out]; rfl, by (repeat' (first | (with_reducible exact Below.refl _ _) | (with_reducible refine Below.alloc ?_ ?_ _) | (with_reducible refine Below.setCell ?_ ?_ _) | (with_reducible refine Below.drew ?_) | (with_reducible refine below_drewN ?_ _) | (with_reducible assumption) | (with_reducible refine below_after (by with_reducible assumption) ?_) | go_size))⟩
            · skip
              go_simp; obtain ⟨GP, hGP⟩ : ∃ G, ywr20x0.heap.size = G := ⟨_, rfl⟩; have le_P : wr.heap.size ≤ GP := by rw [← hGP]; exact Below.size hHeld
              have ne_P_R : GP ≠ GR := by have := HR.out.2.2; omega
              have ne_R_P : GR ≠ GP := Ne.symm ne_P_R
              have ne_P_M : GP ≠ GM := by have := HM.out.2.2; omega
              have ne_M_P : GM ≠ GP := Ne.symm ne_P_M
              have HR := Lib.hid (HR.out.below ((Below.refl _ _).alloc (Nat.le_refl _) (.cells #[.int .i64 0, .int .i64 0, .int .i64 0, .int .i64 0] 24))); have HM := Lib.hid (HM.out.below ((Below.refl _ _).alloc (Nat.le_refl _) (.cells #[.int .i64 0, .int .i64 0, .int .i64 0, .int .i64 0] 24))); skip
              have HP : Hid (Bk4 (ywr20x0.alloc (.cells #[.int .i64 0, .int .i64 0, .int .i64 0, .int .i64 0] 24)) GP 0 0 0 0) := by rw [← hGP]; exact bk4_new ywr20x0 0 0 0 0 _
              refine hK.out _ _ (Below.alloc hHeld (Below.size hHeld) _) (fun hHeld2 => ?_); (clear hHeld; rename _ => hHeld; clear hK K; have hHeld : Below wr.heap.size wr _ := hHeld); (try simp only [Act.put, List.getElem_toArray, List.getElem_cons_succ, List.getElem_cons_zero, List.setIfInBounds_toArray, List.set_cons_zero, List.set_cons_succ])
              rw [hGP]; clear hGP; obtain ⟨ywr20x1, hwx⟩ : ∃ wx, ywr20x0.alloc (.cells #[.int .i64 0, .int .i64 0, .int .i64 0, .int .i64 0] 24) = wx := ⟨_, rfl⟩; rw [hwx] at HR HM HP hHeld ⊢; clear hwx
              refine wpAnyH_ready (rs := [5]) (by kernel_rfl) (by simp) ?_; refine AllReadyH.cons rfl (fun K hK => ?_) AllReadyH.nil
              go_simp; (go_at_call 20; refine (HT.out _).mono ?_; rintro en ywr20x2 ⟨rfl, hb2⟩); have HR := Lib.hid (HR.out.below hb2); have HM := Lib.hid (HM.out.below hb2); have HP := Lib.hid (HP.out.below hb2); refine hK.out _ _ (below_after hb2 hHeld) (fun hHeld2 => ?_); clear hb2; (clear hHeld; rename _ => hHeld; clear hK K; have hHeld : Below wr.heap.size wr _ := hHeld); (try simp only [Act.put, List.getElem_toArray, List.getElem_cons_succ, List.getElem_cons_zero, List.setIfInBounds_toArray, List.set_cons_zero, List.set_cons_succ])
              (refine wpAnyH_take (i := 6) (v := ?_) rfl (by kernel_rfl) (by kernel_rfl) (by kernel_rfl) (fun _ _ _ h => h) (Or.inl ⟨rfl, ?_⟩) (by assumption) ?_; rotate_left; focus (intro W hSw; (try dsimp only at hSw); have hxx := HXX.out _ hSw; obtain ⟨hxR, hxM⟩ := hxx; obtain ⟨⟨iR0, iR1, iR2, iR3⟩, _, _⟩ := hxR; obtain ⟨⟨iM0, iM1, iM2, iM3⟩, _, _⟩ := hxM; go_simp; try (with_reducible rfl))); (try simp only [Act.put, List.getElem_toArray, List.getElem_cons_succ, List.getElem_cons_zero, List.setIfInBounds_toArray, List.set_cons_zero, List.set_cons_succ])
              (refine wpAnyH_take (i := 7) (v := ?_) rfl (by kernel_rfl) (by kernel_rfl) (by kernel_rfl) (fun _ _ _ h => h) (Or.inl ⟨rfl, ?_⟩) (by assumption) ?_; rotate_left; focus (intro W hSw; (try dsimp only at hSw); have hxx := HXX.out _ hSw; obtain ⟨hxR, hxM⟩ := hxx; obtain ⟨⟨iR0, iR1, iR2, iR3⟩, _, _⟩ := hxR; obtain ⟨⟨iM0, iM1, iM2, iM3⟩, _, _⟩ := hxM; go_simp; try (with_reducible rfl))); (try simp only [Act.put, List.getElem_toArray, List.getElem_cons_succ, List.getElem_cons_zero, List.setIfInBounds_toArray, List.set_cons_zero, List.set_cons_succ])
              (refine wpAnyH_take (i := 8) (v := ?_) rfl (by kernel_rfl) (by kernel_rfl) (by kernel_rfl) (fun _ _ _ h => h) (Or.inl ⟨rfl, ?_⟩) (by assumption) ?_; rotate_left; focus (intro W hSw; (try dsimp only at hSw); have hxx := HXX.out _ hSw; obtain ⟨hxR, hxM⟩ := hxx; obtain ⟨⟨iR0, iR1, iR2, iR3⟩, _, _⟩ := hxR; obtain ⟨⟨iM0, iM1, iM2, iM3⟩, _, _⟩ := hxM; go_simp; try (with_reducible rfl))); (try simp only [Act.put, List.getElem_toArray, List.getElem_cons_succ, List.getElem_cons_zero, List.setIfInBounds_toArray, List.set_cons_zero, List.set_cons_succ])
              refine wpAnyH_ready (rs := [10]) (by kernel_rfl) (by simp) ?_; refine AllReadyH.cons rfl (fun K hK => ?_) AllReadyH.nil
              obtain ⟨⟨a0, a1, a2, a3⟩, ⟨f0, f1, f2, f3⟩, az⟩ := HP.out; go_simp; clear a0 f0 a1 f1 a2 f2 a3 f3 az
              have HR := Lib.hid ((((HR.out.far ⟨GP, 0, none⟩ (.int .i64 0) (by show GR ≠ GP; exact ne_R_P)).far ⟨GP, 1, none⟩ (.int .i64 0) (by show GR ≠ GP; exact ne_R_P)).far ⟨GP, 2, none⟩ (.int .i64 0) (by show GR ≠ GP; exact ne_R_P)).far ⟨GP, 3, none⟩ (.int .i64 0) (by show GR ≠ GP; exact ne_R_P))
              have HM := Lib.hid ((((HM.out.far ⟨GP, 0, none⟩ (.int .i64 0) (by show GM ≠ GP; exact ne_M_P)).far ⟨GP, 1, none⟩ (.int .i64 0) (by show GM ≠ GP; exact ne_M_P)).far ⟨GP, 2, none⟩ (.int .i64 0) (by show GM ≠ GP; exact ne_M_P)).far ⟨GP, 3, none⟩ (.int .i64 0) (by show GM ≠ GP; exact ne_M_P))
              have HP := Lib.hid ((((HP.out.set0 0).set1 0).set2 0).set3 0)
              refine hK.out _ _ (Below.setCell (Below.setCell (Below.setCell (Below.setCell hHeld (p := ⟨GP, 0, none⟩) le_P _) (p := ⟨GP, 1, none⟩) le_P _) (p := ⟨GP, 2, none⟩) le_P _) (p := ⟨GP, 3, none⟩) le_P _) (fun hHeld2 => ?_); (clear hHeld; rename _ => hHeld; clear hK K; have hHeld : Below wr.heap.size wr _ := hHeld); (try simp only [Act.put, List.getElem_toArray, List.getElem_cons_succ, List.getElem_cons_zero, List.setIfInBounds_toArray, List.set_cons_zero, List.set_cons_succ])
              obtain ⟨ywr20x3, hwx⟩ : ∃ wx, (((ywr20x2.setCell ⟨GP, 0, none⟩ (.int .i64 0)).setCell ⟨GP, 1, none⟩ (.int .i64 0)).setCell ⟨GP, 2, none⟩ (.int .i64 0)).setCell ⟨GP, 3, none⟩ (.int .i64 0) = wx := ⟨_, rfl⟩; rw [hwx] at HR HM HP hHeld ⊢; clear hwx
              (refine wpAnyH_take (i := 11) (v := ?_) rfl (by kernel_rfl) (by kernel_rfl) (by kernel_rfl) (fun _ _ _ h => h) (Or.inl ⟨rfl, ?_⟩) (by assumption) ?_; rotate_left; focus (intro W hSw; (try dsimp only at hSw); have hxx := HXX.out _ hSw; obtain ⟨hxR, hxM⟩ := hxx; obtain ⟨⟨iR0, iR1, iR2, iR3⟩, _, _⟩ := hxR; obtain ⟨⟨iM0, iM1, iM2, iM3⟩, _, _⟩ := hxM; go_simp; try (with_reducible rfl))); (try simp only [Act.put, List.getElem_toArray, List.getElem_cons_succ, List.getElem_cons_zero, List.setIfInBounds_toArray, List.set_cons_zero, List.set_cons_succ])
              refine wpAnyH_done (by kernel_rfl) ?_ _
              have le_P : w.heap.size ≤ GP := Nat.le_trans HB.out.size le_P
              have HB := Lib.hid (HB.out.trans (hHeld.mono HB.out.size))
              clear hHeld HXX
              obtain ⟨⟨qR0, qR1, qR2, qR3⟩, ⟨fR0, fR1, fR2, fR3⟩, zR⟩ := HR.out
              obtain ⟨⟨qM0, qM1, qM2, qM3⟩, ⟨fM0, fM1, fM2, fM3⟩, zM⟩ := HM.out
              obtain ⟨⟨qP0, qP1, qP2, qP3⟩, ⟨fP0, fP1, fP2, fP3⟩, zP⟩ := HP.out
              go_wp2_with fail
              refine bodyPost_ret (v := .tuple #[.agg #[.int .i64 0, .int .i64 0, .int .i64 0, .int .i64 0], .int .i64 3]) (by simp (maxDischargeDepth := 8) [results, Tryd.results7, go_sem, *]) rfl ?_
              have hb := HB.out
              exact ⟨by rw [← HS2.out]; rfl, by (repeat' (first | (with_reducible exact Below.refl _ _) | (with_reducible refine Below.alloc ?_ ?_ _) | (with_reducible refine Below.setCell ?_ ?_ _) | (with_reducible refine Below.drew ?_) | (with_reducible refine below_drewN ?_ _) | (with_reducible assumption) | (with_reducible refine below_after (by with_reducible assumption) ?_) | go_size))⟩
          · skip
            go_simp; obtain ⟨GP, hGP⟩ : ∃ G, wD20.heap.size = G := ⟨_, rfl⟩; have le_P : wr.heap.size ≤ GP := by rw [← hGP]; exact Below.size hHeld
            have ne_P_R : GP ≠ GR := by have := HR.out.2.2; omega
            have ne_R_P : GR ≠ GP := Ne.symm ne_P_R
            have ne_P_M : GP ≠ GM := by have := HM.out.2.2; omega
            have ne_M_P : GM ≠ GP := Ne.symm ne_P_M
            have HR := Lib.hid (HR.out.below ((Below.refl _ _).alloc (Nat.le_refl _) (.cells #[.int .i64 0, .int .i64 0, .int .i64 0, .int .i64 0] 24))); have HM := Lib.hid (HM.out.below ((Below.refl _ _).alloc (Nat.le_refl _) (.cells #[.int .i64 0, .int .i64 0, .int .i64 0, .int .i64 0] 24))); skip
            have HP : Hid (Bk4 (wD20.alloc (.cells #[.int .i64 0, .int .i64 0, .int .i64 0, .int .i64 0] 24)) GP 0 0 0 0) := by rw [← hGP]; exact bk4_new wD20 0 0 0 0 _
            refine hK.out _ _ (Below.alloc hHeld (Below.size hHeld) _) (fun hHeld2 => ?_); (clear hHeld; rename _ => hHeld; clear hK K; have hHeld : Below wr.heap.size wr _ := hHeld); (try simp only [Act.put, List.getElem_toArray, List.getElem_cons_succ, List.getElem_cons_zero, List.setIfInBounds_toArray, List.set_cons_zero, List.set_cons_succ])
            rw [hGP]; clear hGP; obtain ⟨ywr20x0, hwx⟩ : ∃ wx, wD20.alloc (.cells #[.int .i64 0, .int .i64 0, .int .i64 0, .int .i64 0] 24) = wx := ⟨_, rfl⟩; rw [hwx] at HR HM HP hHeld ⊢; clear hwx
            refine wpAnyH_ready (rs := [4]) (by kernel_rfl) (by simp) ?_; refine AllReadyH.cons rfl (fun K hK => ?_) AllReadyH.nil
            go_simp; (go_at_call 21; refine (letter_R _).mono ?_; rintro en ywr20x1 ⟨rfl, hb2⟩); have HR := Lib.hid (HR.out.below hb2); have HM := Lib.hid (HM.out.below hb2); have HP := Lib.hid (HP.out.below hb2); refine hK.out _ _ (below_after hb2 hHeld) (fun hHeld2 => ?_); clear hb2; (clear hHeld; rename _ => hHeld; clear hK K; have hHeld : Below wr.heap.size wr _ := hHeld); (try simp only [Act.put, List.getElem_toArray, List.getElem_cons_succ, List.getElem_cons_zero, List.setIfInBounds_toArray, List.set_cons_zero, List.set_cons_succ])
            refine wpAnyH_ready (rs := [5]) (by kernel_rfl) (by simp) ?_; refine AllReadyH.cons rfl (fun K hK => ?_) AllReadyH.nil
            go_simp; (go_at_call 20; refine (HT.out _).mono ?_; rintro en ywr20x2 ⟨rfl, hb2⟩); have HR := Lib.hid (HR.out.below hb2); have HM := Lib.hid (HM.out.below hb2); have HP := Lib.hid (HP.out.below hb2); refine hK.out _ _ (below_after hb2 hHeld) (fun hHeld2 => ?_); clear hb2; (clear hHeld; rename _ => hHeld; clear hK K; have hHeld : Below wr.heap.size wr _ := hHeld); (try simp only [Act.put, List.getElem_toArray, List.getElem_cons_succ, List.getElem_cons_zero, List.setIfInBounds_toArray, List.set_cons_zero, List.set_cons_succ])
            (refine wpAnyH_take (i := 6) (v := ?_) rfl (by kernel_rfl) (by kernel_rfl) (by kernel_rfl) (fun _ _ _ h => h) (Or.inl ⟨rfl, ?_⟩) (by assumption) ?_; rotate_left; focus (intro W hSw; (try dsimp only at hSw); have hxx := HXX.out _ hSw; obtain ⟨hxR, hxM⟩ := hxx; obtain ⟨⟨iR0, iR1, iR2, iR3⟩, _, _⟩ := hxR; obtain ⟨⟨iM0, iM1, iM2, iM3⟩, _, _⟩ := hxM; go_simp; try (with_reducible rfl))); (try simp only [Act.put, List.getElem_toArray, List.getElem_cons_succ, List.getElem_cons_zero, List.setIfInBounds_toArray, List.set_cons_zero, List.set_cons_succ])
            (refine wpAnyH_take (i := 7) (v := ?_) rfl (by kernel_rfl) (by kernel_rfl) (by kernel_rfl) (fun _ _ _ h => h) (Or.inl ⟨rfl, ?_⟩) (by assumption) ?_; rotate_left; focus (intro W hSw; (try dsimp only at hSw); have hxx := HXX.out _ hSw; obtain ⟨hxR, hxM⟩ := hxx; obtain ⟨⟨iR0, iR1, iR2, iR3⟩, _, _⟩ := hxR; obtain ⟨⟨iM0, iM1, iM2, iM3⟩, _, _⟩ := hxM; go_simp; try (with_reducible rfl))); (try simp only [Act.put, List.getElem_toArray, List.getElem_cons_succ, List.getElem_cons_zero, List.setIfInBounds_toArray, List.set_cons_zero, List.set_cons_succ])
            (refine wpAnyH_take (i := 8) (v := ?_) rfl (by kernel_rfl) (by kernel_rfl) (by kernel_rfl) (fun _ _ _ h => h) (Or.inl ⟨rfl, ?_⟩) (by assumption) ?_; rotate_left; focus (intro W hSw; (try dsimp only at hSw); have hxx := HXX.out _ hSw; obtain ⟨hxR, hxM⟩ := hxx; obtain ⟨⟨iR0, iR1, iR2, iR3⟩, _, _⟩ := hxR; obtain ⟨⟨iM0, iM1, iM2, iM3⟩, _, _⟩ := hxM; go_simp; try (with_reducible rfl))); (try simp only [Act.put, List.getElem_toArray, List.getElem_cons_succ, List.getElem_cons_zero, List.setIfInBounds_toArray, List.set_cons_zero, List.set_cons_succ])
            refine wpAnyH_ready (rs := [10]) (by kernel_rfl) (by simp) ?_; refine AllReadyH.cons rfl (fun K hK => ?_) AllReadyH.nil
            obtain ⟨⟨a0, a1, a2, a3⟩, ⟨f0, f1, f2, f3⟩, az⟩ := HP.out; go_simp; clear a0 f0 a1 f1 a2 f2 a3 f3 az
            have HR := Lib.hid ((((HR.out.far ⟨GP, 0, none⟩ (.int .i64 0) (by show GR ≠ GP; exact ne_R_P)).far ⟨GP, 1, none⟩ (.int .i64 0) (by show GR ≠ GP; exact ne_R_P)).far ⟨GP, 2, none⟩ (.int .i64 0) (by show GR ≠ GP; exact ne_R_P)).far ⟨GP, 3, none⟩ (.int .i64 0) (by show GR ≠ GP; exact ne_R_P))
            have HM := Lib.hid ((((HM.out.far ⟨GP, 0, none⟩ (.int .i64 0) (by show GM ≠ GP; exact ne_M_P)).far ⟨GP, 1, none⟩ (.int .i64 0) (by show GM ≠ GP; exact ne_M_P)).far ⟨GP, 2, none⟩ (.int .i64 0) (by show GM ≠ GP; exact ne_M_P)).far ⟨GP, 3, none⟩ (.int .i64 0) (by show GM ≠ GP; exact ne_M_P))
            have HP := Lib.hid ((((HP.out.set0 0).set1 0).set2 0).set3 0)
            refine hK.out _ _ (Below.setCell (Below.setCell (Below.setCell (Below.setCell hHeld (p := ⟨GP, 0, none⟩) le_P _) (p := ⟨GP, 1, none⟩) le_P _) (p := ⟨GP, 2, none⟩) le_P _) (p := ⟨GP, 3, none⟩) le_P _) (fun hHeld2 => ?_); (clear hHeld; rename _ => hHeld; clear hK K; have hHeld : Below wr.heap.size wr _ := hHeld); (try simp only [Act.put, List.getElem_toArray, List.getElem_cons_succ, List.getElem_cons_zero, List.setIfInBounds_toArray, List.set_cons_zero, List.set_cons_succ])
            obtain ⟨ywr20x3, hwx⟩ : ∃ wx, (((ywr20x2.setCell ⟨GP, 0, none⟩ (.int .i64 0)).setCell ⟨GP, 1, none⟩ (.int .i64 0)).setCell ⟨GP, 2, none⟩ (.int .i64 0)).setCell ⟨GP, 3, none⟩ (.int .i64 0) = wx := ⟨_, rfl⟩; rw [hwx] at HR HM HP hHeld ⊢; clear hwx
            (refine wpAnyH_take (i := 11) (v := ?_) rfl (by kernel_rfl) (by kernel_rfl) (by kernel_rfl) (fun _ _ _ h => h) (Or.inl ⟨rfl, ?_⟩) (by assumption) ?_; rotate_left; focus (intro W hSw; (try dsimp only at hSw); have hxx := HXX.out _ hSw; obtain ⟨hxR, hxM⟩ := hxx; obtain ⟨⟨iR0, iR1, iR2, iR3⟩, _, _⟩ := hxR; obtain ⟨⟨iM0, iM1, iM2, iM3⟩, _, _⟩ := hxM; go_simp; try (with_reducible rfl))); (try simp only [Act.put, List.getElem_toArray, List.getElem_cons_succ, List.getElem_cons_zero, List.setIfInBounds_toArray, List.set_cons_zero, List.set_cons_succ])
            refine wpAnyH_done (by kernel_rfl) ?_ _
            have le_P : w.heap.size ≤ GP := Nat.le_trans HB.out.size le_P
            have HB := Lib.hid (HB.out.trans (hHeld.mono HB.out.size))
            clear hHeld HXX
            obtain ⟨⟨qR0, qR1, qR2, qR3⟩, ⟨fR0, fR1, fR2, fR3⟩, zR⟩ := HR.out
            obtain ⟨⟨qM0, qM1, qM2, qM3⟩, ⟨fM0, fM1, fM2, fM3⟩, zM⟩ := HM.out
            obtain ⟨⟨qP0, qP1, qP2, qP3⟩, ⟨fP0, fP1, fP2, fP3⟩, zP⟩ := HP.out
            go_wp2_with fail
            refine bodyPost_ret (v := .tuple #[.agg #[.int .i64 0, .int .i64 0, .int .i64 0, .int .i64 0], .int .i64 3]) (by simp (maxDischargeDepth := 8) [results, Tryd.results7, go_sem, *]) rfl ?_
            have hb := HB.out
            exact ⟨by rw [← HS2.out]; rfl, by (repeat' (first | (with_reducible exact Below.refl _ _) | (with_reducible refine Below.alloc ?_ ?_ _) | (with_reducible refine Below.setCell ?_ ?_ _) | (with_reducible refine Below.drew ?_) | (with_reducible refine below_drewN ?_ _) | (with_reducible assumption) | (with_reducible refine below_after (by with_reducible assumption) ?_) | go_size))⟩
        · rw [hmq] at HS
          have HT : Hid (∀ w, Calls Tryd.prog 20 #[.agg #[.int .i64 a, .int .i64 b, .int .i64 c, .int .i64 d], .agg #[.int .i64 1, .int .i64 1, .int .i64 0, .int .i64 1]] w fun e w' => e = .returned (.tuple #[.agg #[.int .i64 a, .int .i64 x1, .int .i64 c, .int .i64 x3], .int .i64 0]) ∧ Below w.heap.size w w') := fun w => by
            have := HT.out w
            rwa [hmq, if_pos rfl] at this
          have HS2 : Hid (wm (l.drop (i + 1)) a x1 c x3 = W) := by rw [if_pos rfl] at HS; exact HS
          have HMX2 := Lib.hid hmq
          clear HS hmq
          have HXX : Hid (∀ W, Below wr.heap.size wr W → Bk4 W GR 0 0 0 0 ∧ Bk4 W GM a b c d) := fun W hW => ⟨HR.out.below hW, HM.out.below hW⟩
          go_wp2_with fail
          refine wp_region_held_drew (S := fun W => Below wr.heap.size wr W) (by kernel_rfl) ?_ (fun hHeld => ?_); focus ((try dsimp only); exact (Below.refl _ _).drew)
          have HR := Lib.hid (HR.out.below (Below.drew (Below.refl _ _)))
          have HM := Lib.hid (HM.out.below (Below.drew (Below.refl _ _)))
          have hHeld : Below wr.heap.size wr _ := hHeld
          obtain ⟨wD20, hwD20⟩ : ∃ wD, wr.drew = wD := ⟨_, rfl⟩
          rw [hwD20] at hHeld HR HM ⊢
          clear hwD20
          (refine wpAnyH_take (i := 0) (v := ?_) rfl (by kernel_rfl) (by kernel_rfl) (by kernel_rfl) (fun _ _ _ h => h) (Or.inl ⟨rfl, ?_⟩) (by assumption) ?_; rotate_left; focus (intro W hSw; (try dsimp only at hSw); have hxx := HXX.out _ hSw; obtain ⟨hxR, hxM⟩ := hxx; obtain ⟨⟨iR0, iR1, iR2, iR3⟩, _, _⟩ := hxR; obtain ⟨⟨iM0, iM1, iM2, iM3⟩, _, _⟩ := hxM; go_simp; try (with_reducible rfl))); (try simp only [Act.put, List.getElem_toArray, List.getElem_cons_succ, List.getElem_cons_zero, List.setIfInBounds_toArray, List.set_cons_zero, List.set_cons_succ])
          (refine wpAnyH_take (i := 1) (v := ?_) rfl (by kernel_rfl) (by kernel_rfl) (by kernel_rfl) (fun _ _ _ h => h) (Or.inl ⟨rfl, ?_⟩) (by assumption) ?_; rotate_left; focus (intro W hSw; (try dsimp only at hSw); have hxx := HXX.out _ hSw; obtain ⟨hxR, hxM⟩ := hxx; obtain ⟨⟨iR0, iR1, iR2, iR3⟩, _, _⟩ := hxR; obtain ⟨⟨iM0, iM1, iM2, iM3⟩, _, _⟩ := hxM; go_simp; try (with_reducible rfl))); (try simp only [Act.put, List.getElem_toArray, List.getElem_cons_succ, List.getElem_cons_zero, List.setIfInBounds_toArray, List.set_cons_zero, List.set_cons_succ])
          (refine wpAnyH_take (i := 2) (v := ?_) rfl (by kernel_rfl) (by kernel_rfl) (by kernel_rfl) (fun _ _ _ h => h) (Or.inl ⟨rfl, ?_⟩) (by assumption) ?_; rotate_left; focus (intro W hSw; (try dsimp only at hSw); have hxx := HXX.out _ hSw; obtain ⟨hxR, hxM⟩ := hxx; obtain ⟨⟨iR0, iR1, iR2, iR3⟩, _, _⟩ := hxR; obtain ⟨⟨iM0, iM1, iM2, iM3⟩, _, _⟩ := hxM; go_simp; try (with_reducible rfl))); (try simp only [Act.put, List.getElem_toArray, List.getElem_cons_succ, List.getElem_cons_zero, List.setIfInBounds_toArray, List.set_cons_zero, List.set_cons_succ])
          (refine wpAnyH_take (i := 3) (v := ?_) rfl (by kernel_rfl) (by kernel_rfl) (by kernel_rfl) (fun _ _ _ h => h) (Or.inl ⟨rfl, ?_⟩) (by assumption) ?_; rotate_left; focus (intro W hSw; (try dsimp only at hSw); have hxx := HXX.out _ hSw; obtain ⟨hxR, hxM⟩ := hxx; obtain ⟨⟨iR0, iR1, iR2, iR3⟩, _, _⟩ := hxR; obtain ⟨⟨iM0, iM1, iM2, iM3⟩, _, _⟩ := hxM; go_simp; try (with_reducible rfl))); (try simp only [Act.put, List.getElem_toArray, List.getElem_cons_succ, List.getElem_cons_zero, List.setIfInBounds_toArray, List.set_cons_zero, List.set_cons_succ])
          refine wpAnyH_ready (rs := [4, 9]) (by kernel_rfl) (by simp) ?_; refine AllReadyH.cons rfl (fun K hK => ?_) (AllReadyH.cons rfl (fun K hK => ?_) AllReadyH.nil)
          · skip
            go_simp; (go_at_call 21; refine (letter_R _).mono ?_; rintro en ywr20x0 ⟨rfl, hb2⟩); have HR := Lib.hid (HR.out.below hb2); have HM := Lib.hid (HM.out.below hb2); refine hK.out _ _ (below_after hb2 hHeld) (fun hHeld2 => ?_); clear hb2; (clear hHeld; rename _ => hHeld; clear hK K; have hHeld : Below wr.heap.size wr _ := hHeld); (try simp only [Act.put, List.getElem_toArray, List.getElem_cons_succ, List.getElem_cons_zero, List.setIfInBounds_toArray, List.set_cons_zero, List.set_cons_succ])
            refine wpAnyH_ready (rs := [5, 9]) (by kernel_rfl) (by simp) ?_; refine AllReadyH.cons rfl (fun K hK => ?_) (AllReadyH.cons rfl (fun K hK => ?_) AllReadyH.nil)
            · skip
              go_simp; (go_at_call 20; refine (HT.out _).mono ?_; rintro en ywr20x1 ⟨rfl, hb2⟩); have HR := Lib.hid (HR.out.below hb2); have HM := Lib.hid (HM.out.below hb2); refine hK.out _ _ (below_after hb2 hHeld) (fun hHeld2 => ?_); clear hb2; (clear hHeld; rename _ => hHeld; clear hK K; have hHeld : Below wr.heap.size wr _ := hHeld); (try simp only [Act.put, List.getElem_toArray, List.getElem_cons_succ, List.getElem_cons_zero, List.setIfInBounds_toArray, List.set_cons_zero, List.set_cons_succ])
              (refine wpAnyH_take (i := 6) (v := ?_) rfl (by kernel_rfl) (by kernel_rfl) (by kernel_rfl) (fun _ _ _ h => h) (Or.inl ⟨rfl, ?_⟩) (by assumption) ?_; rotate_left; focus (intro W hSw; (try dsimp only at hSw); have hxx := HXX.out _ hSw; obtain ⟨hxR, hxM⟩ := hxx; obtain ⟨⟨iR0, iR1, iR2, iR3⟩, _, _⟩ := hxR; obtain ⟨⟨iM0, iM1, iM2, iM3⟩, _, _⟩ := hxM; go_simp; try (with_reducible rfl))); (try simp only [Act.put, List.getElem_toArray, List.getElem_cons_succ, List.getElem_cons_zero, List.setIfInBounds_toArray, List.set_cons_zero, List.set_cons_succ])
              (refine wpAnyH_take (i := 7) (v := ?_) rfl (by kernel_rfl) (by kernel_rfl) (by kernel_rfl) (fun _ _ _ h => h) (Or.inl ⟨rfl, ?_⟩) (by assumption) ?_; rotate_left; focus (intro W hSw; (try dsimp only at hSw); have hxx := HXX.out _ hSw; obtain ⟨hxR, hxM⟩ := hxx; obtain ⟨⟨iR0, iR1, iR2, iR3⟩, _, _⟩ := hxR; obtain ⟨⟨iM0, iM1, iM2, iM3⟩, _, _⟩ := hxM; go_simp; try (with_reducible rfl))); (try simp only [Act.put, List.getElem_toArray, List.getElem_cons_succ, List.getElem_cons_zero, List.setIfInBounds_toArray, List.set_cons_zero, List.set_cons_succ])
              (refine wpAnyH_take (i := 8) (v := ?_) rfl (by kernel_rfl) (by kernel_rfl) (by kernel_rfl) (fun _ _ _ h => h) (Or.inl ⟨rfl, ?_⟩) (by assumption) ?_; rotate_left; focus (intro W hSw; (try dsimp only at hSw); have hxx := HXX.out _ hSw; obtain ⟨hxR, hxM⟩ := hxx; obtain ⟨⟨iR0, iR1, iR2, iR3⟩, _, _⟩ := hxR; obtain ⟨⟨iM0, iM1, iM2, iM3⟩, _, _⟩ := hxM; go_simp; try (with_reducible rfl))); (try simp only [Act.put, List.getElem_toArray, List.getElem_cons_succ, List.getElem_cons_zero, List.setIfInBounds_toArray, List.set_cons_zero, List.set_cons_succ])
              refine wpAnyH_ready (rs := [9]) (by kernel_rfl) (by simp) ?_; refine AllReadyH.cons rfl (fun K hK => ?_) AllReadyH.nil
              go_simp; obtain ⟨GP, hGP⟩ : ∃ G, ywr20x1.heap.size = G := ⟨_, rfl⟩; have le_P : wr.heap.size ≤ GP := by rw [← hGP]; exact Below.size hHeld
              have ne_P_R : GP ≠ GR := by have := HR.out.2.2; omega
              have ne_R_P : GR ≠ GP := Ne.symm ne_P_R
              have ne_P_M : GP ≠ GM := by have := HM.out.2.2; omega
              have ne_M_P : GM ≠ GP := Ne.symm ne_P_M
              have HR := Lib.hid (HR.out.below ((Below.refl _ _).alloc (Nat.le_refl _) (.cells #[.int .i64 0, .int .i64 0, .int .i64 0, .int .i64 0] 24))); have HM := Lib.hid (HM.out.below ((Below.refl _ _).alloc (Nat.le_refl _) (.cells #[.int .i64 0, .int .i64 0, .int .i64 0, .int .i64 0] 24))); skip
              have HP : Hid (Bk4 (ywr20x1.alloc (.cells #[.int .i64 0, .int .i64 0, .int .i64 0, .int .i64 0] 24)) GP 0 0 0 0) := by rw [← hGP]; exact bk4_new ywr20x1 0 0 0 0 _
              refine hK.out _ _ (Below.alloc hHeld (Below.size hHeld) _) (fun hHeld2 => ?_); (clear hHeld; rename _ => hHeld; clear hK K; have hHeld : Below wr.heap.size wr _ := hHeld); (try simp only [Act.put, List.getElem_toArray, List.getElem_cons_succ, List.getElem_cons_zero, List.setIfInBounds_toArray, List.set_cons_zero, List.set_cons_succ])
              rw [hGP]; clear hGP; obtain ⟨ywr20x2, hwx⟩ : ∃ wx, ywr20x1.alloc (.cells #[.int .i64 0, .int .i64 0, .int .i64 0, .int .i64 0] 24) = wx := ⟨_, rfl⟩; rw [hwx] at HR HM HP hHeld ⊢; clear hwx
              refine wpAnyH_ready (rs := [10]) (by kernel_rfl) (by simp) ?_; refine AllReadyH.cons rfl (fun K hK => ?_) AllReadyH.nil
              obtain ⟨⟨a0, a1, a2, a3⟩, ⟨f0, f1, f2, f3⟩, az⟩ := HP.out; go_simp; clear a0 f0 a1 f1 a2 f2 a3 f3 az
              have HR := Lib.hid ((((HR.out.far ⟨GP, 0, none⟩ (.int .i64 a) (by show GR ≠ GP; exact ne_R_P)).far ⟨GP, 1, none⟩ (.int .i64 x1) (by show GR ≠ GP; exact ne_R_P)).far ⟨GP, 2, none⟩ (.int .i64 c) (by show GR ≠ GP; exact ne_R_P)).far ⟨GP, 3, none⟩ (.int .i64 x3) (by show GR ≠ GP; exact ne_R_P))
              have HM := Lib.hid ((((HM.out.far ⟨GP, 0, none⟩ (.int .i64 a) (by show GM ≠ GP; exact ne_M_P)).far ⟨GP, 1, none⟩ (.int .i64 x1) (by show GM ≠ GP; exact ne_M_P)).far ⟨GP, 2, none⟩ (.int .i64 c) (by show GM ≠ GP; exact ne_M_P)).far ⟨GP, 3, none⟩ (.int .i64 x3) (by show GM ≠ GP; exact ne_M_P))
              have HP := Lib.hid ((((HP.out.set0 a).set1 x1).set2 c).set3 x3)
              refine hK.out _ _ (Below.setCell (Below.setCell (Below.setCell (Below.setCell hHeld (p := ⟨GP, 0, none⟩) le_P _) (p := ⟨GP, 1, none⟩) le_P _) (p := ⟨GP, 2, none⟩) le_P _) (p := ⟨GP, 3, none⟩) le_P _) (fun hHeld2 => ?_); (clear hHeld; rename _ => hHeld; clear hK K; have hHeld : Below wr.heap.size wr _ := hHeld); (try simp only [Act.put, List.getElem_toArray, List.getElem_cons_succ, List.getElem_cons_zero, List.setIfInBounds_toArray, List.set_cons_zero, List.set_cons_succ])
              obtain ⟨ywr20x3, hwx⟩ : ∃ wx, (((ywr20x2.setCell ⟨GP, 0, none⟩ (.int .i64 a)).setCell ⟨GP, 1, none⟩ (.int .i64 x1)).setCell ⟨GP, 2, none⟩ (.int .i64 c)).setCell ⟨GP, 3, none⟩ (.int .i64 x3) = wx := ⟨_, rfl⟩; rw [hwx] at HR HM HP hHeld ⊢; clear hwx
              (refine wpAnyH_take (i := 11) (v := ?_) rfl (by kernel_rfl) (by kernel_rfl) (by kernel_rfl) (fun _ _ _ h => h) (Or.inl ⟨rfl, ?_⟩) (by assumption) ?_; rotate_left; focus (intro W hSw; (try dsimp only at hSw); have hxx := HXX.out _ hSw; obtain ⟨hxR, hxM⟩ := hxx; obtain ⟨⟨iR0, iR1, iR2, iR3⟩, _, _⟩ := hxR; obtain ⟨⟨iM0, iM1, iM2, iM3⟩, _, _⟩ := hxM; go_simp; try (with_reducible rfl))); (try simp only [Act.put, List.getElem_toArray, List.getElem_cons_succ, List.getElem_cons_zero, List.setIfInBounds_toArray, List.set_cons_zero, List.set_cons_succ])
              refine wpAnyH_done (by kernel_rfl) ?_ _
              have le_P : w.heap.size ≤ GP := Nat.le_trans HB.out.size le_P
              have HB := Lib.hid (HB.out.trans (hHeld.mono HB.out.size))
              clear hHeld HXX
              obtain ⟨⟨qR0, qR1, qR2, qR3⟩, ⟨fR0, fR1, fR2, fR3⟩, zR⟩ := HR.out
              obtain ⟨⟨qM0, qM1, qM2, qM3⟩, ⟨fM0, fM1, fM2, fM3⟩, zM⟩ := HM.out
              obtain ⟨⟨qP0, qP1, qP2, qP3⟩, ⟨fP0, fP1, fP2, fP3⟩, zP⟩ := HP.out
              go_wp2_with fail
              clear qR0 fR0 qR1 fR1 qR2 fR2 qR3 fR3 zR qM0 fM0 qM1 fM1 qM2 fM2 qM3 fM3 zM qP0 fP0 qP1 fP1 qP2 fP2 qP3 fP3 zP
              have HR := Lib.hid ((((HR.out.far ⟨GM, 0, none⟩ (.int .i64 a) (by show GR ≠ GM; exact ne_R_M)).far ⟨GM, 1, none⟩ (.int .i64 x1) (by show GR ≠ GM; exact ne_R_M)).far ⟨GM, 2, none⟩ (.int .i64 c) (by show GR ≠ GM; exact ne_R_M)).far ⟨GM, 3, none⟩ (.int .i64 x3) (by show GR ≠ GM; exact ne_R_M))
              have HP := Lib.hid ((((HP.out.far ⟨GM, 0, none⟩ (.int .i64 a) (by show GP ≠ GM; exact ne_P_M)).far ⟨GM, 1, none⟩ (.int .i64 x1) (by show GP ≠ GM; exact ne_P_M)).far ⟨GM, 2, none⟩ (.int .i64 c) (by show GP ≠ GM; exact ne_P_M)).far ⟨GM, 3, none⟩ (.int .i64 x3) (by show GP ≠ GM; exact ne_P_M))
              have HM := Lib.hid ((((HM.out.set0 a).set1 x1).set2 c).set3 x3)
              have HB := Lib.hid (Below.setCell (Below.setCell (Below.setCell (Below.setCell HB.out (p := ⟨GM, 0, none⟩) le_M (.int .i64 a)) (p := ⟨GM, 1, none⟩) le_M (.int .i64 x1)) (p := ⟨GM, 2, none⟩) le_M (.int .i64 c)) (p := ⟨GM, 3, none⟩) le_M (.int .i64 x3))
              go_roundw
              case rel => exact ⟨i + 1, a, x1, c, x3, by go_num, by omega, HMX2.out, HS2.out, HR.out, HM.out, HB.out⟩
              case measure => simp only [intOf]; omega
            · skip
              go_simp; obtain ⟨GP, hGP⟩ : ∃ G, ywr20x0.heap.size = G := ⟨_, rfl⟩; have le_P : wr.heap.size ≤ GP := by rw [← hGP]; exact Below.size hHeld
              have ne_P_R : GP ≠ GR := by have := HR.out.2.2; omega
              have ne_R_P : GR ≠ GP := Ne.symm ne_P_R
              have ne_P_M : GP ≠ GM := by have := HM.out.2.2; omega
              have ne_M_P : GM ≠ GP := Ne.symm ne_P_M
              have HR := Lib.hid (HR.out.below ((Below.refl _ _).alloc (Nat.le_refl _) (.cells #[.int .i64 0, .int .i64 0, .int .i64 0, .int .i64 0] 24))); have HM := Lib.hid (HM.out.below ((Below.refl _ _).alloc (Nat.le_refl _) (.cells #[.int .i64 0, .int .i64 0, .int .i64 0, .int .i64 0] 24))); skip
              have HP : Hid (Bk4 (ywr20x0.alloc (.cells #[.int .i64 0, .int .i64 0, .int .i64 0, .int .i64 0] 24)) GP 0 0 0 0) := by rw [← hGP]; exact bk4_new ywr20x0 0 0 0 0 _
              refine hK.out _ _ (Below.alloc hHeld (Below.size hHeld) _) (fun hHeld2 => ?_); (clear hHeld; rename _ => hHeld; clear hK K; have hHeld : Below wr.heap.size wr _ := hHeld); (try simp only [Act.put, List.getElem_toArray, List.getElem_cons_succ, List.getElem_cons_zero, List.setIfInBounds_toArray, List.set_cons_zero, List.set_cons_succ])
              rw [hGP]; clear hGP; obtain ⟨ywr20x1, hwx⟩ : ∃ wx, ywr20x0.alloc (.cells #[.int .i64 0, .int .i64 0, .int .i64 0, .int .i64 0] 24) = wx := ⟨_, rfl⟩; rw [hwx] at HR HM HP hHeld ⊢; clear hwx
              refine wpAnyH_ready (rs := [5]) (by kernel_rfl) (by simp) ?_; refine AllReadyH.cons rfl (fun K hK => ?_) AllReadyH.nil
              go_simp; (go_at_call 20; refine (HT.out _).mono ?_; rintro en ywr20x2 ⟨rfl, hb2⟩); have HR := Lib.hid (HR.out.below hb2); have HM := Lib.hid (HM.out.below hb2); have HP := Lib.hid (HP.out.below hb2); refine hK.out _ _ (below_after hb2 hHeld) (fun hHeld2 => ?_); clear hb2; (clear hHeld; rename _ => hHeld; clear hK K; have hHeld : Below wr.heap.size wr _ := hHeld); (try simp only [Act.put, List.getElem_toArray, List.getElem_cons_succ, List.getElem_cons_zero, List.setIfInBounds_toArray, List.set_cons_zero, List.set_cons_succ])
              (refine wpAnyH_take (i := 6) (v := ?_) rfl (by kernel_rfl) (by kernel_rfl) (by kernel_rfl) (fun _ _ _ h => h) (Or.inl ⟨rfl, ?_⟩) (by assumption) ?_; rotate_left; focus (intro W hSw; (try dsimp only at hSw); have hxx := HXX.out _ hSw; obtain ⟨hxR, hxM⟩ := hxx; obtain ⟨⟨iR0, iR1, iR2, iR3⟩, _, _⟩ := hxR; obtain ⟨⟨iM0, iM1, iM2, iM3⟩, _, _⟩ := hxM; go_simp; try (with_reducible rfl))); (try simp only [Act.put, List.getElem_toArray, List.getElem_cons_succ, List.getElem_cons_zero, List.setIfInBounds_toArray, List.set_cons_zero, List.set_cons_succ])
              (refine wpAnyH_take (i := 7) (v := ?_) rfl (by kernel_rfl) (by kernel_rfl) (by kernel_rfl) (fun _ _ _ h => h) (Or.inl ⟨rfl, ?_⟩) (by assumption) ?_; rotate_left; focus (intro W hSw; (try dsimp only at hSw); have hxx := HXX.out _ hSw; obtain ⟨hxR, hxM⟩ := hxx; obtain ⟨⟨iR0, iR1, iR2, iR3⟩, _, _⟩ := hxR; obtain ⟨⟨iM0, iM1, iM2, iM3⟩, _, _⟩ := hxM; go_simp; try (with_reducible rfl))); (try simp only [Act.put, List.getElem_toArray, List.getElem_cons_succ, List.getElem_cons_zero, List.setIfInBounds_toArray, List.set_cons_zero, List.set_cons_succ])
              (refine wpAnyH_take (i := 8) (v := ?_) rfl (by kernel_rfl) (by kernel_rfl) (by kernel_rfl) (fun _ _ _ h => h) (Or.inl ⟨rfl, ?_⟩) (by assumption) ?_; rotate_left; focus (intro W hSw; (try dsimp only at hSw); have hxx := HXX.out _ hSw; obtain ⟨hxR, hxM⟩ := hxx; obtain ⟨⟨iR0, iR1, iR2, iR3⟩, _, _⟩ := hxR; obtain ⟨⟨iM0, iM1, iM2, iM3⟩, _, _⟩ := hxM; go_simp; try (with_reducible rfl))); (try simp only [Act.put, List.getElem_toArray, List.getElem_cons_succ, List.getElem_cons_zero, List.setIfInBounds_toArray, List.set_cons_zero, List.set_cons_succ])
              refine wpAnyH_ready (rs := [10]) (by kernel_rfl) (by simp) ?_; refine AllReadyH.cons rfl (fun K hK => ?_) AllReadyH.nil
              obtain ⟨⟨a0, a1, a2, a3⟩, ⟨f0, f1, f2, f3⟩, az⟩ := HP.out; go_simp; clear a0 f0 a1 f1 a2 f2 a3 f3 az
              have HR := Lib.hid ((((HR.out.far ⟨GP, 0, none⟩ (.int .i64 a) (by show GR ≠ GP; exact ne_R_P)).far ⟨GP, 1, none⟩ (.int .i64 x1) (by show GR ≠ GP; exact ne_R_P)).far ⟨GP, 2, none⟩ (.int .i64 c) (by show GR ≠ GP; exact ne_R_P)).far ⟨GP, 3, none⟩ (.int .i64 x3) (by show GR ≠ GP; exact ne_R_P))
              have HM := Lib.hid ((((HM.out.far ⟨GP, 0, none⟩ (.int .i64 a) (by show GM ≠ GP; exact ne_M_P)).far ⟨GP, 1, none⟩ (.int .i64 x1) (by show GM ≠ GP; exact ne_M_P)).far ⟨GP, 2, none⟩ (.int .i64 c) (by show GM ≠ GP; exact ne_M_P)).far ⟨GP, 3, none⟩ (.int .i64 x3) (by show GM ≠ GP; exact ne_M_P))
              have HP := Lib.hid ((((HP.out.set0 a).set1 x1).set2 c).set3 x3)
              refine hK.out _ _ (Below.setCell (Below.setCell (Below.setCell (Below.setCell hHeld (p := ⟨GP, 0, none⟩) le_P _) (p := ⟨GP, 1, none⟩) le_P _) (p := ⟨GP, 2, none⟩) le_P _) (p := ⟨GP, 3, none⟩) le_P _) (fun hHeld2 => ?_); (clear hHeld; rename _ => hHeld; clear hK K; have hHeld : Below wr.heap.size wr _ := hHeld); (try simp only [Act.put, List.getElem_toArray, List.getElem_cons_succ, List.getElem_cons_zero, List.setIfInBounds_toArray, List.set_cons_zero, List.set_cons_succ])
              obtain ⟨ywr20x3, hwx⟩ : ∃ wx, (((ywr20x2.setCell ⟨GP, 0, none⟩ (.int .i64 a)).setCell ⟨GP, 1, none⟩ (.int .i64 x1)).setCell ⟨GP, 2, none⟩ (.int .i64 c)).setCell ⟨GP, 3, none⟩ (.int .i64 x3) = wx := ⟨_, rfl⟩; rw [hwx] at HR HM HP hHeld ⊢; clear hwx
              (refine wpAnyH_take (i := 11) (v := ?_) rfl (by kernel_rfl) (by kernel_rfl) (by kernel_rfl) (fun _ _ _ h => h) (Or.inl ⟨rfl, ?_⟩) (by assumption) ?_; rotate_left; focus (intro W hSw; (try dsimp only at hSw); have hxx := HXX.out _ hSw; obtain ⟨hxR, hxM⟩ := hxx; obtain ⟨⟨iR0, iR1, iR2, iR3⟩, _, _⟩ := hxR; obtain ⟨⟨iM0, iM1, iM2, iM3⟩, _, _⟩ := hxM; go_simp; try (with_reducible rfl))); (try simp only [Act.put, List.getElem_toArray, List.getElem_cons_succ, List.getElem_cons_zero, List.setIfInBounds_toArray, List.set_cons_zero, List.set_cons_succ])
              refine wpAnyH_done (by kernel_rfl) ?_ _
              have le_P : w.heap.size ≤ GP := Nat.le_trans HB.out.size le_P
              have HB := Lib.hid (HB.out.trans (hHeld.mono HB.out.size))
              clear hHeld HXX
              obtain ⟨⟨qR0, qR1, qR2, qR3⟩, ⟨fR0, fR1, fR2, fR3⟩, zR⟩ := HR.out
              obtain ⟨⟨qM0, qM1, qM2, qM3⟩, ⟨fM0, fM1, fM2, fM3⟩, zM⟩ := HM.out
              obtain ⟨⟨qP0, qP1, qP2, qP3⟩, ⟨fP0, fP1, fP2, fP3⟩, zP⟩ := HP.out
              go_wp2_with fail
              clear qR0 fR0 qR1 fR1 qR2 fR2 qR3 fR3 zR qM0 fM0 qM1 fM1 qM2 fM2 qM3 fM3 zM qP0 fP0 qP1 fP1 qP2 fP2 qP3 fP3 zP
              have HR := Lib.hid ((((HR.out.far ⟨GM, 0, none⟩ (.int .i64 a) (by show GR ≠ GM; exact ne_R_M)).far ⟨GM, 1, none⟩ (.int .i64 x1) (by show GR ≠ GM; exact ne_R_M)).far ⟨GM, 2, none⟩ (.int .i64 c) (by show GR ≠ GM; exact ne_R_M)).far ⟨GM, 3, none⟩ (.int .i64 x3) (by show GR ≠ GM; exact ne_R_M))
              have HP := Lib.hid ((((HP.out.far ⟨GM, 0, none⟩ (.int .i64 a) (by show GP ≠ GM; exact ne_P_M)).far ⟨GM, 1, none⟩ (.int .i64 x1) (by show GP ≠ GM; exact ne_P_M)).far ⟨GM, 2, none⟩ (.int .i64 c) (by show GP ≠ GM; exact ne_P_M)).far ⟨GM, 3, none⟩ (.int .i64 x3) (by show GP ≠ GM; exact ne_P_M))
              have HM := Lib.hid ((((HM.out.set0 a).set1 x1).set2 c).set3 x3)
              have HB := Lib.hid (Below.setCell (Below.setCell (Below.setCell (Below.setCell HB.out (p := ⟨GM, 0, none⟩) le_M (.int .i64 a)) (p := ⟨GM, 1, none⟩) le_M (.int .i64 x1)) (p := ⟨GM, 2, none⟩) le_M (.int .i64 c)) (p := ⟨GM, 3, none⟩) le_M (.int .i64 x3))
              go_roundw
              case rel => exact ⟨i + 1, a, x1, c, x3, by go_num, by omega, HMX2.out, HS2.out, HR.out, HM.out, HB.out⟩
              case measure => simp only [intOf]; omega
          · skip
            go_simp; obtain ⟨GP, hGP⟩ : ∃ G, wD20.heap.size = G := ⟨_, rfl⟩; have le_P : wr.heap.size ≤ GP := by rw [← hGP]; exact Below.size hHeld
            have ne_P_R : GP ≠ GR := by have := HR.out.2.2; omega
            have ne_R_P : GR ≠ GP := Ne.symm ne_P_R
            have ne_P_M : GP ≠ GM := by have := HM.out.2.2; omega
            have ne_M_P : GM ≠ GP := Ne.symm ne_P_M
            have HR := Lib.hid (HR.out.below ((Below.refl _ _).alloc (Nat.le_refl _) (.cells #[.int .i64 0, .int .i64 0, .int .i64 0, .int .i64 0] 24))); have HM := Lib.hid (HM.out.below ((Below.refl _ _).alloc (Nat.le_refl _) (.cells #[.int .i64 0, .int .i64 0, .int .i64 0, .int .i64 0] 24))); skip
            have HP : Hid (Bk4 (wD20.alloc (.cells #[.int .i64 0, .int .i64 0, .int .i64 0, .int .i64 0] 24)) GP 0 0 0 0) := by rw [← hGP]; exact bk4_new wD20 0 0 0 0 _
            refine hK.out _ _ (Below.alloc hHeld (Below.size hHeld) _) (fun hHeld2 => ?_); (clear hHeld; rename _ => hHeld; clear hK K; have hHeld : Below wr.heap.size wr _ := hHeld); (try simp only [Act.put, List.getElem_toArray, List.getElem_cons_succ, List.getElem_cons_zero, List.setIfInBounds_toArray, List.set_cons_zero, List.set_cons_succ])
            rw [hGP]; clear hGP; obtain ⟨ywr20x0, hwx⟩ : ∃ wx, wD20.alloc (.cells #[.int .i64 0, .int .i64 0, .int .i64 0, .int .i64 0] 24) = wx := ⟨_, rfl⟩; rw [hwx] at HR HM HP hHeld ⊢; clear hwx
            refine wpAnyH_ready (rs := [4]) (by kernel_rfl) (by simp) ?_; refine AllReadyH.cons rfl (fun K hK => ?_) AllReadyH.nil
            go_simp; (go_at_call 21; refine (letter_R _).mono ?_; rintro en ywr20x1 ⟨rfl, hb2⟩); have HR := Lib.hid (HR.out.below hb2); have HM := Lib.hid (HM.out.below hb2); have HP := Lib.hid (HP.out.below hb2); refine hK.out _ _ (below_after hb2 hHeld) (fun hHeld2 => ?_); clear hb2; (clear hHeld; rename _ => hHeld; clear hK K; have hHeld : Below wr.heap.size wr _ := hHeld); (try simp only [Act.put, List.getElem_toArray, List.getElem_cons_succ, List.getElem_cons_zero, List.setIfInBounds_toArray, List.set_cons_zero, List.set_cons_succ])
            refine wpAnyH_ready (rs := [5]) (by kernel_rfl) (by simp) ?_; refine AllReadyH.cons rfl (fun K hK => ?_) AllReadyH.nil
            go_simp; (go_at_call 20; refine (HT.out _).mono ?_; rintro en ywr20x2 ⟨rfl, hb2⟩); have HR := Lib.hid (HR.out.below hb2); have HM := Lib.hid (HM.out.below hb2); have HP := Lib.hid (HP.out.below hb2); refine hK.out _ _ (below_after hb2 hHeld) (fun hHeld2 => ?_); clear hb2; (clear hHeld; rename _ => hHeld; clear hK K; have hHeld : Below wr.heap.size wr _ := hHeld); (try simp only [Act.put, List.getElem_toArray, List.getElem_cons_succ, List.getElem_cons_zero, List.setIfInBounds_toArray, List.set_cons_zero, List.set_cons_succ])
            (refine wpAnyH_take (i := 6) (v := ?_) rfl (by kernel_rfl) (by kernel_rfl) (by kernel_rfl) (fun _ _ _ h => h) (Or.inl ⟨rfl, ?_⟩) (by assumption) ?_; rotate_left; focus (intro W hSw; (try dsimp only at hSw); have hxx := HXX.out _ hSw; obtain ⟨hxR, hxM⟩ := hxx; obtain ⟨⟨iR0, iR1, iR2, iR3⟩, _, _⟩ := hxR; obtain ⟨⟨iM0, iM1, iM2, iM3⟩, _, _⟩ := hxM; go_simp; try (with_reducible rfl))); (try simp only [Act.put, List.getElem_toArray, List.getElem_cons_succ, List.getElem_cons_zero, List.setIfInBounds_toArray, List.set_cons_zero, List.set_cons_succ])
            (refine wpAnyH_take (i := 7) (v := ?_) rfl (by kernel_rfl) (by kernel_rfl) (by kernel_rfl) (fun _ _ _ h => h) (Or.inl ⟨rfl, ?_⟩) (by assumption) ?_; rotate_left; focus (intro W hSw; (try dsimp only at hSw); have hxx := HXX.out _ hSw; obtain ⟨hxR, hxM⟩ := hxx; obtain ⟨⟨iR0, iR1, iR2, iR3⟩, _, _⟩ := hxR; obtain ⟨⟨iM0, iM1, iM2, iM3⟩, _, _⟩ := hxM; go_simp; try (with_reducible rfl))); (try simp only [Act.put, List.getElem_toArray, List.getElem_cons_succ, List.getElem_cons_zero, List.setIfInBounds_toArray, List.set_cons_zero, List.set_cons_succ])
            (refine wpAnyH_take (i := 8) (v := ?_) rfl (by kernel_rfl) (by kernel_rfl) (by kernel_rfl) (fun _ _ _ h => h) (Or.inl ⟨rfl, ?_⟩) (by assumption) ?_; rotate_left; focus (intro W hSw; (try dsimp only at hSw); have hxx := HXX.out _ hSw; obtain ⟨hxR, hxM⟩ := hxx; obtain ⟨⟨iR0, iR1, iR2, iR3⟩, _, _⟩ := hxR; obtain ⟨⟨iM0, iM1, iM2, iM3⟩, _, _⟩ := hxM; go_simp; try (with_reducible rfl))); (try simp only [Act.put, List.getElem_toArray, List.getElem_cons_succ, List.getElem_cons_zero, List.setIfInBounds_toArray, List.set_cons_zero, List.set_cons_succ])
            refine wpAnyH_ready (rs := [10]) (by kernel_rfl) (by simp) ?_; refine AllReadyH.cons rfl (fun K hK => ?_) AllReadyH.nil
            obtain ⟨⟨a0, a1, a2, a3⟩, ⟨f0, f1, f2, f3⟩, az⟩ := HP.out; go_simp; clear a0 f0 a1 f1 a2 f2 a3 f3 az
            have HR := Lib.hid ((((HR.out.far ⟨GP, 0, none⟩ (.int .i64 a) (by show GR ≠ GP; exact ne_R_P)).far ⟨GP, 1, none⟩ (.int .i64 x1) (by show GR ≠ GP; exact ne_R_P)).far ⟨GP, 2, none⟩ (.int .i64 c) (by show GR ≠ GP; exact ne_R_P)).far ⟨GP, 3, none⟩ (.int .i64 x3) (by show GR ≠ GP; exact ne_R_P))
            have HM := Lib.hid ((((HM.out.far ⟨GP, 0, none⟩ (.int .i64 a) (by show GM ≠ GP; exact ne_M_P)).far ⟨GP, 1, none⟩ (.int .i64 x1) (by show GM ≠ GP; exact ne_M_P)).far ⟨GP, 2, none⟩ (.int .i64 c) (by show GM ≠ GP; exact ne_M_P)).far ⟨GP, 3, none⟩ (.int .i64 x3) (by show GM ≠ GP; exact ne_M_P))
            have HP := Lib.hid ((((HP.out.set0 a).set1 x1).set2 c).set3 x3)
            refine hK.out _ _ (Below.setCell (Below.setCell (Below.setCell (Below.setCell hHeld (p := ⟨GP, 0, none⟩) le_P _) (p := ⟨GP, 1, none⟩) le_P _) (p := ⟨GP, 2, none⟩) le_P _) (p := ⟨GP, 3, none⟩) le_P _) (fun hHeld2 => ?_); (clear hHeld; rename _ => hHeld; clear hK K; have hHeld : Below wr.heap.size wr _ := hHeld); (try simp only [Act.put, List.getElem_toArray, List.getElem_cons_succ, List.getElem_cons_zero, List.setIfInBounds_toArray, List.set_cons_zero, List.set_cons_succ])
            obtain ⟨ywr20x3, hwx⟩ : ∃ wx, (((ywr20x2.setCell ⟨GP, 0, none⟩ (.int .i64 a)).setCell ⟨GP, 1, none⟩ (.int .i64 x1)).setCell ⟨GP, 2, none⟩ (.int .i64 c)).setCell ⟨GP, 3, none⟩ (.int .i64 x3) = wx := ⟨_, rfl⟩; rw [hwx] at HR HM HP hHeld ⊢; clear hwx
            (refine wpAnyH_take (i := 11) (v := ?_) rfl (by kernel_rfl) (by kernel_rfl) (by kernel_rfl) (fun _ _ _ h => h) (Or.inl ⟨rfl, ?_⟩) (by assumption) ?_; rotate_left; focus (intro W hSw; (try dsimp only at hSw); have hxx := HXX.out _ hSw; obtain ⟨hxR, hxM⟩ := hxx; obtain ⟨⟨iR0, iR1, iR2, iR3⟩, _, _⟩ := hxR; obtain ⟨⟨iM0, iM1, iM2, iM3⟩, _, _⟩ := hxM; go_simp; try (with_reducible rfl))); (try simp only [Act.put, List.getElem_toArray, List.getElem_cons_succ, List.getElem_cons_zero, List.setIfInBounds_toArray, List.set_cons_zero, List.set_cons_succ])
            refine wpAnyH_done (by kernel_rfl) ?_ _
            have le_P : w.heap.size ≤ GP := Nat.le_trans HB.out.size le_P
            have HB := Lib.hid (HB.out.trans (hHeld.mono HB.out.size))
            clear hHeld HXX
            obtain ⟨⟨qR0, qR1, qR2, qR3⟩, ⟨fR0, fR1, fR2, fR3⟩, zR⟩ := HR.out
            obtain ⟨⟨qM0, qM1, qM2, qM3⟩, ⟨fM0, fM1, fM2, fM3⟩, zM⟩ := HM.out
            obtain ⟨⟨qP0, qP1, qP2, qP3⟩, ⟨fP0, fP1, fP2, fP3⟩, zP⟩ := HP.out
            go_wp2_with fail
            clear qR0 fR0 qR1 fR1 qR2 fR2 qR3 fR3 zR qM0 fM0 qM1 fM1 qM2 fM2 qM3 fM3 zM qP0 fP0 qP1 fP1 qP2 fP2 qP3 fP3 zP
            have HR := Lib.hid ((((HR.out.far ⟨GM, 0, none⟩ (.int .i64 a) (by show GR ≠ GM; exact ne_R_M)).far ⟨GM, 1, none⟩ (.int .i64 x1) (by show GR ≠ GM; exact ne_R_M)).far ⟨GM, 2, none⟩ (.int .i64 c) (by show GR ≠ GM; exact ne_R_M)).far ⟨GM, 3, none⟩ (.int .i64 x3) (by show GR ≠ GM; exact ne_R_M))
            have HP := Lib.hid ((((HP.out.far ⟨GM, 0, none⟩ (.int .i64 a) (by show GP ≠ GM; exact ne_P_M)).far ⟨GM, 1, none⟩ (.int .i64 x1) (by show GP ≠ GM; exact ne_P_M)).far ⟨GM, 2, none⟩ (.int .i64 c) (by show GP ≠ GM; exact ne_P_M)).far ⟨GM, 3, none⟩ (.int .i64 x3) (by show GP ≠ GM; exact ne_P_M))
            have HM := Lib.hid ((((HM.out.set0 a).set1 x1).set2 c).set3 x3)
            have HB := Lib.hid (Below.setCell (Below.setCell (Below.setCell (Below.setCell HB.out (p := ⟨GM, 0, none⟩) le_M (.int .i64 a)) (p := ⟨GM, 1, none⟩) le_M (.int .i64 x1)) (p := ⟨GM, 2, none⟩) le_M (.int .i64 c)) (p := ⟨GM, 3, none⟩) le_M (.int .i64 x3))
            go_roundw
            case rel => exact ⟨i + 1, a, x1, c, x3, by go_num, by omega, HMX2.out, HS2.out, HR.out, HM.out, HB.out⟩
            case measure => simp only [intOf]; omega
    · have hlt : decide ((i : Int) < (l.length : Int)) = false := by simp; omega
      have HE : Hid (W = some (a, b, c, d)) := by
        show _ = _
        rw [← HW.out, List.drop_eq_nil_of_le (by omega)]; rfl
      obtain ⟨⟨qR0, qR1, qR2, qR3⟩, ⟨fR0, fR1, fR2, fR3⟩, zR⟩ := HR.out
      obtain ⟨⟨qM0, qM1, qM2, qM3⟩, ⟨fM0, fM1, fM2, fM3⟩, zM⟩ := HM.out
      go_wp2_with fail
      refine bodyPost_ret (v := .tuple #[.agg #[.int .i64 a, .int .i64 b, .int .i64 c, .int .i64 d], .int .i64 0]) (by simp (maxDischargeDepth := 8) [results, Tryd.results7, go_sem, *]) rfl ?_
      have hb := HB.out
      exact ⟨by rw [HE.out]; rfl, by (repeat' (first | (with_reducible exact Below.refl _ _) | (with_reducible refine Below.alloc ?_ ?_ _) | (with_reducible refine Below.setCell ?_ ?_ _) | (with_reducible refine Below.drew ?_) | (with_reducible refine below_drewN ?_ _) | (with_reducible assumption) | (with_reducible refine below_after (by with_reducible assumption) ?_) | go_size))⟩

end Go.Proofs.YtohnmogejidpdaaDoor
