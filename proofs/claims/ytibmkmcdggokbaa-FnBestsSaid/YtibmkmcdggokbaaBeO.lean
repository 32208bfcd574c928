/-
  Records of approaches to a ratio, in the program (own work).
-/
import Derived.Test.YtibmkmcdggokbaaBeN
import Derived.BigRegion
import Derived.Deep.DeepCutAuto
namespace Go.Proofs.Ytibmkmcdggokbaa
open Go.ChangeShapes Go.WideShapes Go.ChangeAt Go.RowKit
set_option linter.unusedVariables false
set_option linter.unusedSimpArgs false
set_option maxRecDepth 100000

set_option maxHeartbeats 4000000 in
theorem recS_any (gp gq : Nat) (p q n : Int) (w : World) (hp : Bk1 w gp p) (hq : Bk1 w gq q) (h : rtB p q 1 = true) (n1 : 1 ≤ n) (n2 : n ≤ 100000) :
    Calls Try.prog 39 #[.int .i64 n, .func (.func 37) #[] #[.pointer (some ⟨gp, 0, none⟩), .pointer (some ⟨gq, 0, none⟩)], .func (.func 52) #[] #[]] w (RetI w (rcS (btK true p q) (n.toNat - 1)).1) := by
  have HV : Hid (∀ W k, Below w.heap.size w W → 1 ≤ k → k ≤ 1000000 → Calls Try.prog 37 #[.int .i64 k, .pointer (some ⟨gp, 0, none⟩), .pointer (some ⟨gq, 0, none⟩)] W fun e w' => e = .returned (apV p q k) ∧ Below W.heap.size W w') := fun W k hW k1 k2 => bestAt_any gp gq p q k W (hp.below hW) (hq.below hW) h k1 k2
  have HQ := Lib.hid (rtB_iff.1 h).2
  have HF := Lib.hid n1
  have HS1 := Lib.hid (fun j => rcS_len (bt := btK true p q) j)
  have HS2 := Lib.hid (fun j => rcS_last (bt := btK true p q) j)
  clear hp hq h
  unfold apV at HV
  obtain ⟨w0, hw0⟩ : ∃ w0, w0 = w.alloc (.cells #[.int .i64 1] 2) := ⟨_, rfl⟩
  have HL : Hid (OwnI w.heap.size w0 (.slice (some ⟨w.heap.size, 0, none⟩) [(1 : Int)].length 1) [1]) := by
    show OwnI _ _ _ _
    rw [hw0]
    exact World.ownsRow_lit w #[.int .i64 1] 1 (Nat.le_refl _) (by decide) rfl
  have HB : Hid (Below w.heap.size w w0) := by show Below w.heap.size w w0; rw [hw0]; (repeat' (first | (with_reducible exact Below.refl _ _) | (with_reducible refine Below.alloc ?_ ?_ _) | (with_reducible refine Below.setCell ?_ ?_ _) | (with_reducible refine Below.drew ?_) | (with_reducible refine below_drewN ?_ _) | (with_reducible assumption) | (with_reducible refine below_after (by with_reducible assumption) ?_) | go_size))
  have HV1 : Hid (∀ W, Below w.heap.size w W → Calls Try.prog 37 #[.int .i64 1, .pointer (some ⟨gp, 0, none⟩), .pointer (some ⟨gq, 0, none⟩)] W fun e w' => e = .returned (.agg #[.int .i64 (nrP (1 * p) q), .int .i64 1, .int .i64 (nrM (1 * p) q)]) ∧ Below W.heap.size W w') := fun W hW => HV.out W 1 hW (by omega) (by omega)
  obtain ⟨P0, hP0⟩ : ∃ X, nrP (1 * p) q = X := ⟨_, rfl⟩
  obtain ⟨Y0, hY0⟩ : ∃ X, nrM (1 * p) q = X := ⟨_, rfl⟩
  have HP0 := Lib.hid hP0
  have HY0 := Lib.hid hY0
  rw [hP0, hY0] at HV1
  clear hP0 hY0
  go_enter Try.func39, Try.ntmps39
  go_wp2_with fail
  rw [← hw0]
  clear hw0
  go_at_call 37
  refine (HV1.out _ HB.out).mono ?_
  rintro e w1 ⟨rfl, hb⟩
  have HL := Lib.hid (HL.out.below hb)
  have HB := Lib.hid (below_after hb HB.out)
  clear hb
  go_upto_region 2 with fail
  obtain ⟨GM, hGM⟩ : ∃ g, w1.heap.size = g := ⟨_, rfl⟩
  obtain ⟨w2, hw2⟩ : ∃ wx, wx = w1.alloc (.cells #[.int .i64 P0, .int .i64 1, .int .i64 Y0] 54) := ⟨_, rfl⟩
  rw [← hw2, hGM]
  have HM : Hid (Bk3 w2 GM P0 1 Y0) := by rw [hw2, ← hGM]; exact bk3_new w1 P0 1 Y0 _
  have le_M : w.heap.size ≤ GM := by rw [← hGM]; exact HB.out.size
  have NOM : Hid (∀ k, (Value.slice (some ⟨w.heap.size, 0, none⟩) [(1 : Int)].length 1).ownBlock = some k → k ≠ GM) := fun k hk => by have := (World.ownsRow.lt HL.out k hk).2; omega
  have HL := Lib.hid (HL.out.below ((Below.refl _ _).alloc (Nat.le_refl _) (.cells #[.int .i64 P0, .int .i64 1, .int .i64 Y0] 54)))
  have HB := Lib.hid (Below.alloc HB.out HB.out.size (.cells #[.int .i64 P0, .int .i64 1, .int .i64 Y0] 54))
  rw [← hw2] at HL HB
  clear hw2 hGM
  go_wp2_with fail
  go_loopw [7, 9] (fun rv kv wr => ∃ (j : Nat) (L : List Int) (l : Int) (va : Option Addr) (vc : Nat), rcS (btK true p q) j = (L, l) ∧ rv = .slice va L.length vc ∧ kv = .int .i64 ((j : Int) + 2) ∧ (j : Int) + 1 ≤ n ∧ OwnI w.heap.size wr (.slice va L.length vc) L ∧ (∀ k, (Value.slice va L.length vc).ownBlock = some k → k ≠ GM) ∧ Bk3 wr GM (nrP (l * p) q) l (nrM (l * p) q) ∧ Below w.heap.size w wr) (fun _ kv _ => (n + 1 - intOf kv).toNat)
  case atStart => exact ⟨0, [1], 1, _, _, rfl, rfl, by go_num, by have := HF.out; omega, HL.out, NOM.out, by rw [HP0.out, HY0.out]; exact HM.out, HB.out⟩
  case round =>
    obtain ⟨j, L, l, va, vc, hj, rfl, rfl, hjn, hl, hno, hm, hbel⟩ := hrel
    clear HL HB HM NOM HV1 HP0 HY0
    have HL := Lib.hid hl
    have NOM := Lib.hid hno
    have HB := Lib.hid hbel
    have HJ := Lib.hid hj
    have hl1 := HS1.out j
    have hl2 := HS2.out j
    rw [hj] at hl1 hl2
    dsimp only at hl1 hl2
    have HLL := Lib.hid hl1
    obtain ⟨P, hP⟩ : ∃ X, nrP (l * p) q = X := ⟨_, rfl⟩
    obtain ⟨Y, hY⟩ : ∃ X, nrM (l * p) q = X := ⟨_, rfl⟩
    have hYb := nrM_bd (x := l * p) HQ.out.1
    rw [hP, hY] at hm
    rw [hY] at hYb
    have HM := Lib.hid hm
    have HY := Lib.hid hY
    have HPE := Lib.hid hP
    have HYE := Lib.hid hY
    clear hl hno hbel hm hj hl1 hP hY
    by_cases hlt : (j : Int) + 2 ≤ n
    · skip
      have HVK : Hid (∀ W, Below w.heap.size w W → Calls Try.prog 37 #[.int .i64 ((j : Int) + 2), .pointer (some ⟨gp, 0, none⟩), .pointer (some ⟨gq, 0, none⟩)] W fun e w' => e = .returned (.agg #[.int .i64 (nrP (((j : Int) + 2) * p) q), .int .i64 ((j : Int) + 2), .int .i64 (nrM (((j : Int) + 2) * p) q)]) ∧ Below W.heap.size W w') := fun W hW => HV.out W _ hW (by omega) (by omega)
      obtain ⟨X2, hX2⟩ : ∃ X, nrP (((j : Int) + 2) * p) q = X := ⟨_, rfl⟩
      obtain ⟨Y2, hY2⟩ : ∃ X, nrM (((j : Int) + 2) * p) q = X := ⟨_, rfl⟩
      have hY2b := nrM_bd (x := ((j : Int) + 2) * p) HQ.out.1
      rw [hX2, hY2] at HVK
      rw [hY2] at hY2b
      have HX2 := Lib.hid hX2
      have HY2 := Lib.hid hY2
      have hq2 := HQ.out.2
      have HLS : Hid (∀ w, Calls Try.prog 52 #[.agg #[.int .i64 X2, .int .i64 ((j : Int) + 2), .int .i64 Y2], .agg #[.int .i64 P, .int .i64 l, .int .i64 Y]] w fun e w' => e = .returned (.bool (decide (Y2 < Y))) ∧ Below w.heap.size w w') := fun w => missesLess_any _ _ _ _ _ _ w
      have HBT : Hid (btK true p q ((j : Int) + 2) l = decide (Y2 < Y)) := by show _ = _; unfold btK; rw [HY.out, hY2]; rfl
      obtain ⟨bb, hbb⟩ : ∃ X, decide (Y2 < Y) = X := ⟨_, rfl⟩
      rw [hbb] at HLS HBT
      clear hX2 hY2 hbb hY2b hq2 hYb HV HY hl2
      obtain ⟨⟨qM0, qM1, qM2⟩, ⟨fM0, fM1, fM2⟩, zM⟩ := HM.out
      go_wp2_with fail
      go_at_call 37
      refine (HVK.out _ HB.out).mono ?_
      rintro e w21 ⟨rfl, hb⟩
      clear qM0 fM0 qM1 fM1 qM2 fM2 zM
      have HM := Lib.hid (HM.out.below hb)
      have HL := Lib.hid (HL.out.below hb)
      have HB := Lib.hid (below_after hb HB.out)
      clear hb
      obtain ⟨⟨qM0, qM1, qM2⟩, ⟨fM0, fM1, fM2⟩, zM⟩ := HM.out
      go_upto_region 6 with fail
      obtain ⟨GD, hGD⟩ : ∃ g, w21.heap.size = g := ⟨_, rfl⟩
      obtain ⟨w22, hw22⟩ : ∃ wx, wx = w21.alloc (.cells #[.int .i64 X2, .int .i64 (((j : Int) + 2)), .int .i64 Y2] 54) := ⟨_, rfl⟩
      rw [← hw22, hGD]
      have HD : Hid (Bk3 w22 GD X2 (((j : Int) + 2)) Y2) := by rw [hw22, ← hGD]; exact bk3_new w21 X2 (((j : Int) + 2)) Y2 _
      have le_D : w.heap.size ≤ GD := by rw [← hGD]; exact HB.out.size
      have ne_D_M : GD ≠ GM := by have := HM.out.2.2; omega
      have ne_M_D : GM ≠ GD := Ne.symm ne_D_M
      have NOD : Hid (∀ k, (Value.slice va L.length vc).ownBlock = some k → k ≠ GD) := fun k hk => by have := (World.ownsRow.lt HL.out k hk).2; omega
      clear qM0 fM0 qM1 fM1 qM2 fM2 zM
      have HM := Lib.hid (HM.out.below ((Below.refl _ _).alloc (Nat.le_refl _) (.cells #[.int .i64 X2, .int .i64 (((j : Int) + 2)), .int .i64 Y2] 54)))
      have HL := Lib.hid (HL.out.below ((Below.refl _ _).alloc (Nat.le_refl _) (.cells #[.int .i64 X2, .int .i64 (((j : Int) + 2)), .int .i64 Y2] 54)))
      have HB := Lib.hid (Below.alloc HB.out HB.out.size (.cells #[.int .i64 X2, .int .i64 (((j : Int) + 2)), .int .i64 Y2] 54))
      rw [← hw22] at HM HL HB
      clear hw22 hGD
      obtain ⟨⟨qM0, qM1, qM2⟩, ⟨fM0, fM1, fM2⟩, zM⟩ := HM.out
      obtain ⟨⟨qD0, qD1, qD2⟩, ⟨fD0, fD1, fD2⟩, zD⟩ := HD.out
      go_wp2_with fail
      go_at_call 52
      refine (HLS.out _).mono ?_
      rintro e w23 ⟨rfl, hb⟩
      clear qM0 fM0 qM1 fM1 qM2 fM2 zM qD0 fD0 qD1 fD1 qD2 fD2 zD
      have HM := Lib.hid (HM.out.below hb)
      have HD := Lib.hid (HD.out.below hb)
      have HL := Lib.hid (HL.out.below hb)
      have HB := Lib.hid (below_after hb HB.out)
      clear hb
      cases bb
      · skip
        have HN := Lib.hid ((rcS_no (bt := btK true p q) (n := j) (by rw [HJ.out]; exact HBT.out)).trans HJ.out)

        go_wp2_with fail
        go_roundw
        case rel => exact ⟨j + 1, _, _, _, _, HN.out, rfl, by go_num, by omega, HL.out, NOM.out, by rw [HPE.out, HYE.out]; exact HM.out, HB.out⟩
        case measure => simp only [intOf]; omega
      · skip
        have HN := Lib.hid ((rcS_yes (bt := btK true p q) (n := j) (by rw [HJ.out]; exact HBT.out)).trans (by rw [HJ.out]))
        dsimp only at HN
        go_wp2_with fail
        refine wp_region_held_drew (S := fun W => Below w.heap.size w W ∧ Bk3 W GD X2 (((j : Int) + 2)) Y2) (by kernel_rfl) ?_ (fun hHeld => ?_); focus ((try dsimp only); exact ⟨Below.drew HB.out, HD.out.below (Below.drew (Below.refl _ _))⟩)
        have HM := Lib.hid (HM.out.below (Below.drew (Below.refl _ _)))
        have HD := Lib.hid (HD.out.below (Below.drew (Below.refl _ _)))
        have HL := Lib.hid (HL.out.below (Below.drew (Below.refl _ _)))
        have hHeld : (fun W => Below w.heap.size w W ∧ Bk3 W GD X2 (((j : Int) + 2)) Y2) _ := hHeld
        obtain ⟨wD23, hwD23⟩ : ∃ wD, w23.drew = wD := ⟨_, rfl⟩
        rw [hwD23] at hHeld HM HD HL ⊢
        clear hwD23
        (refine wpAnyH_take (i := 0) (v := ?_) rfl (by kernel_rfl) (by kernel_rfl) (by kernel_rfl) (fun _ _ _ h => h) (Or.inl ⟨rfl, ?_⟩) (by assumption) ?_; rotate_left; focus (intro W hSw; (try dsimp only at hSw); obtain ⟨hSb, hxD⟩ := hSw; obtain ⟨⟨iD0, iD1, iD2⟩, _, _⟩ := hxD; go_simp; try (with_reducible rfl))); (try simp only [Act.put, List.getElem_toArray, List.getElem_cons_succ, List.getElem_cons_zero, List.setIfInBounds_toArray, List.set_cons_zero, List.set_cons_succ])
        (refine wpAnyH_take (i := 1) (v := ?_) rfl (by kernel_rfl) (by kernel_rfl) (by kernel_rfl) (fun _ _ _ h => h) (Or.inl ⟨rfl, ?_⟩) (by assumption) ?_; rotate_left; focus (intro W hSw; (try dsimp only at hSw); obtain ⟨hSb, hxD⟩ := hSw; obtain ⟨⟨iD0, iD1, iD2⟩, _, _⟩ := hxD; go_simp; try (with_reducible rfl))); (try simp only [Act.put, List.getElem_toArray, List.getElem_cons_succ, List.getElem_cons_zero, List.setIfInBounds_toArray, List.set_cons_zero, List.set_cons_succ])
        (refine wpAnyH_take (i := 4) (v := ?_) rfl (by kernel_rfl) (by kernel_rfl) (by kernel_rfl) (fun _ _ _ h => h) (Or.inl ⟨rfl, ?_⟩) (by assumption) ?_; rotate_left; focus (intro W hSw; (try dsimp only at hSw); obtain ⟨hSb, hxD⟩ := hSw; obtain ⟨⟨iD0, iD1, iD2⟩, _, _⟩ := hxD; go_simp; try (with_reducible rfl))); (try simp only [Act.put, List.getElem_toArray, List.getElem_cons_succ, List.getElem_cons_zero, List.setIfInBounds_toArray, List.set_cons_zero, List.set_cons_succ])
        refine wpAnyH_ready (rs := [2]) (by kernel_rfl) (by simp) ?_; refine AllReadyH.cons rfl (fun K hK => ?_) AllReadyH.nil
        go_simp; obtain ⟨GZ, hGZ⟩ : ∃ G, wD23.heap.size = G := ⟨_, rfl⟩; have le_Z : w.heap.size ≤ GZ := by rw [← hGZ]; exact Below.size hHeld.1
        have ne_Z_M : GZ ≠ GM := by have := HM.out.2.2; omega
        have ne_M_Z : GM ≠ GZ := Ne.symm ne_Z_M
        have ne_Z_D : GZ ≠ GD := by have := HD.out.2.2; omega
        have ne_D_Z : GD ≠ GZ := Ne.symm ne_Z_D
        have HM := Lib.hid (HM.out.below ((Below.refl _ _).alloc (Nat.le_refl _) (.cells #[.int .i64 (((j : Int) + 2))] 2))); have HD := Lib.hid (HD.out.below ((Below.refl _ _).alloc (Nat.le_refl _) (.cells #[.int .i64 (((j : Int) + 2))] 2))); have HL := Lib.hid (HL.out.below ((Below.refl _ _).alloc (Nat.le_refl _) (.cells #[.int .i64 (((j : Int) + 2))] 2))); skip
        have HZ : Hid (Bk1 (wD23.alloc (.cells #[.int .i64 (((j : Int) + 2))] 2)) GZ (((j : Int) + 2))) := by rw [← hGZ]; exact bk1_new wD23 (((j : Int) + 2)) _
        refine hK.out _ _ ⟨Below.alloc hHeld.1 (Below.size hHeld.1) _, HD.out⟩ (fun hHeld2 => ?_); (clear hHeld; rename _ => hHeld; clear hK K; have hHeld : (fun W => Below w.heap.size w W ∧ Bk3 W GD X2 (((j : Int) + 2)) Y2) _ := hHeld); (try simp only [Act.put, List.getElem_toArray, List.getElem_cons_succ, List.getElem_cons_zero, List.setIfInBounds_toArray, List.set_cons_zero, List.set_cons_succ])
        rw [hGZ]; clear hGZ; obtain ⟨ywr23x0, hwx⟩ : ∃ wx, wD23.alloc (.cells #[.int .i64 (((j : Int) + 2))] 2) = wx := ⟨_, rfl⟩; rw [hwx] at HM HD HL HZ hHeld ⊢; clear hwx
        refine wpAnyH_ready (rs := [3]) (by kernel_rfl) (by simp) ?_; refine AllReadyH.cons rfl (fun K hK => ?_) AllReadyH.nil
        refine wp_append_atI w.heap.size _ _ rfl HL.out HZ.out.1 (Below.size hHeld.1) rfl rfl (by have := HLL.out; omega) ?_; intro v' ywr23x1 hown' hgr hat
        have NNM := Lib.hid (no_next hat NOM.out HM.out.2.2)
        have HM := Lib.hid (HM.out.grows hgr (fun e => NOM.out _ e rfl))
        have NOM := NNM
        clear NNM
        have NND := Lib.hid (no_next hat NOD.out HD.out.2.2)
        have HD := Lib.hid (HD.out.grows hgr (fun e => NOD.out _ e rfl))
        have NOD := NND
        clear NND
        have hBn := Below.grown hHeld.1 hgr (Below.size hHeld.1) (fun k hk => (World.ownsRow.lt HL.out k hk).1)
        have HL := Lib.hid hown'
        obtain ⟨va', vc', rfl, _⟩ := own_view hown'
        refine hK.out _ _ ⟨hBn, HD.out⟩ (fun hHeld2 => ?_); clear hown' hgr hat hBn; (clear hHeld; rename _ => hHeld; clear hK K; have hHeld : (fun W => Below w.heap.size w W ∧ Bk3 W GD X2 (((j : Int) + 2)) Y2) _ := hHeld); (try simp only [Act.put, List.getElem_toArray, List.getElem_cons_succ, List.getElem_cons_zero, List.setIfInBounds_toArray, List.set_cons_zero, List.set_cons_succ])
        (refine wpAnyH_take (i := 5) (v := ?_) rfl (by kernel_rfl) (by kernel_rfl) (by kernel_rfl) (fun _ _ _ h => h) (Or.inl ⟨rfl, ?_⟩) (by assumption) ?_; rotate_left; focus (intro W hSw; (try dsimp only at hSw); obtain ⟨hSb, hxD⟩ := hSw; obtain ⟨⟨iD0, iD1, iD2⟩, _, _⟩ := hxD; go_simp; try (with_reducible rfl))); (try simp only [Act.put, List.getElem_toArray, List.getElem_cons_succ, List.getElem_cons_zero, List.setIfInBounds_toArray, List.set_cons_zero, List.set_cons_succ])
        refine wpAnyH_ready (rs := [6]) (by kernel_rfl) (by simp) ?_; refine AllReadyH.cons rfl (fun K hK => ?_) AllReadyH.nil
        obtain ⟨⟨a0, a1, a2⟩, ⟨f0, f1, f2⟩, az⟩ := HM.out; go_simp; clear a0 f0 a1 f1 a2 f2 az
        have HD := Lib.hid (((HD.out.far ⟨GM, 0, none⟩ (.int .i64 X2) (by show GD ≠ GM; exact ne_D_M)).far ⟨GM, 1, none⟩ (.int .i64 (((j : Int) + 2))) (by show GD ≠ GM; exact ne_D_M)).far ⟨GM, 2, none⟩ (.int .i64 Y2) (by show GD ≠ GM; exact ne_D_M))
        have HL := Lib.hid (((HL.out.farB ⟨GM, 0, none⟩ (.int .i64 X2) NOM.out).farB ⟨GM, 1, none⟩ (.int .i64 (((j : Int) + 2))) NOM.out).farB ⟨GM, 2, none⟩ (.int .i64 Y2) NOM.out)
        have HM := Lib.hid (((HM.out.set0 X2).set1 (((j : Int) + 2))).set2 Y2)
        refine hK.out _ _ ⟨(Below.setCell (Below.setCell (Below.setCell hHeld.1 (p := ⟨GM, 0, none⟩) le_M _) (p := ⟨GM, 1, none⟩) le_M _) (p := ⟨GM, 2, none⟩) le_M _), HD.out⟩ (fun hHeld2 => ?_); (clear hHeld; rename _ => hHeld; clear hK K; have hHeld : (fun W => Below w.heap.size w W ∧ Bk3 W GD X2 (((j : Int) + 2)) Y2) _ := hHeld); (try simp only [Act.put, List.getElem_toArray, List.getElem_cons_succ, List.getElem_cons_zero, List.setIfInBounds_toArray, List.set_cons_zero, List.set_cons_succ])
        obtain ⟨ywr23x2, hwx⟩ : ∃ wx, ((ywr23x1.setCell ⟨GM, 0, none⟩ (.int .i64 X2)).setCell ⟨GM, 1, none⟩ (.int .i64 (((j : Int) + 2)))).setCell ⟨GM, 2, none⟩ (.int .i64 Y2) = wx := ⟨_, rfl⟩; rw [hwx] at HM HD HL hHeld ⊢; clear hwx
        refine wpAnyH_done (by kernel_rfl) ?_ _
        have HB := Lib.hid (hHeld.1)
        clear hHeld
        go_wp2_with fail
        go_roundw
        case rel => exact ⟨j + 1, L ++ [(j : Int) + 2], (j : Int) + 2, va', vc', HN.out, by first | rfl | simp, by go_num, by omega, by first | exact HL.out | simpa using HL.out, by first | exact NOM.out | simpa using NOM.out, by rw [HX2.out, HY2.out]; exact HM.out, HB.out⟩
        case measure => simp only [intOf]; omega
    · skip
      have hjn2 : n.toNat - 1 = j := by omega
      have he : (rcS (btK true p q) (n.toNat - 1)).1 = L := by rw [hjn2, HJ.out]
      go_wp2_with fail
      go_ret
      exact ⟨_, rfl, by first | (rw [he]; exact HL.out) | (rw [HJ.out]; exact HL.out), HB.out⟩
set_option maxHeartbeats 4000000 in
theorem recF_any (gp gq : Nat) (p q n : Int) (w : World) (hp : Bk1 w gp p) (hq : Bk1 w gq q) (h : rtB p q 1 = true) (n1 : 1 ≤ n) (n2 : n ≤ 100000) :
    Calls Try.prog 39 #[.int .i64 n, .func (.func 37) #[] #[.pointer (some ⟨gp, 0, none⟩), .pointer (some ⟨gq, 0, none⟩)], .func (.func 51) #[] #[]] w (RetI w (rcS (btK false p q) (n.toNat - 1)).1) := by
  have HV : Hid (∀ W k, Below w.heap.size w W → 1 ≤ k → k ≤ 1000000 → Calls Try.prog 37 #[.int .i64 k, .pointer (some ⟨gp, 0, none⟩), .pointer (some ⟨gq, 0, none⟩)] W fun e w' => e = .returned (apV p q k) ∧ Below W.heap.size W w') := fun W k hW k1 k2 => bestAt_any gp gq p q k W (hp.below hW) (hq.below hW) h k1 k2
  have HQ := Lib.hid (rtB_iff.1 h).2
  have HF := Lib.hid n1
  have HS1 := Lib.hid (fun j => rcS_len (bt := btK false p q) j)
  have HS2 := Lib.hid (fun j => rcS_last (bt := btK false p q) j)
  clear hp hq h
  unfold apV at HV
  obtain ⟨w0, hw0⟩ : ∃ w0, w0 = w.alloc (.cells #[.int .i64 1] 2) := ⟨_, rfl⟩
  have HL : Hid (OwnI w.heap.size w0 (.slice (some ⟨w.heap.size, 0, none⟩) [(1 : Int)].length 1) [1]) := by
    show OwnI _ _ _ _
    rw [hw0]
    exact World.ownsRow_lit w #[.int .i64 1] 1 (Nat.le_refl _) (by decide) rfl
  have HB : Hid (Below w.heap.size w w0) := by show Below w.heap.size w w0; rw [hw0]; (repeat' (first | (with_reducible exact Below.refl _ _) | (with_reducible refine Below.alloc ?_ ?_ _) | (with_reducible refine Below.setCell ?_ ?_ _) | (with_reducible refine Below.drew ?_) | (with_reducible refine below_drewN ?_ _) | (with_reducible assumption) | (with_reducible refine below_after (by with_reducible assumption) ?_) | go_size))
  have HV1 : Hid (∀ W, Below w.heap.size w W → Calls Try.prog 37 #[.int .i64 1, .pointer (some ⟨gp, 0, none⟩), .pointer (some ⟨gq, 0, none⟩)] W fun e w' => e = .returned (.agg #[.int .i64 (nrP (1 * p) q), .int .i64 1, .int .i64 (nrM (1 * p) q)]) ∧ Below W.heap.size W w') := fun W hW => HV.out W 1 hW (by omega) (by omega)
  obtain ⟨P0, hP0⟩ : ∃ X, nrP (1 * p) q = X := ⟨_, rfl⟩
  obtain ⟨Y0, hY0⟩ : ∃ X, nrM (1 * p) q = X := ⟨_, rfl⟩
  have HP0 := Lib.hid hP0
  have HY0 := Lib.hid hY0
  rw [hP0, hY0] at HV1
  clear hP0 hY0
  go_enter Try.func39, Try.ntmps39
  go_wp2_with fail
  rw [← hw0]
  clear hw0
  go_at_call 37
  refine (HV1.out _ HB.out).mono ?_
  rintro e w1 ⟨rfl, hb⟩
  have HL := Lib.hid (HL.out.below hb)
  have HB := Lib.hid (below_after hb HB.out)
  clear hb
  go_upto_region 2 with fail
  obtain ⟨GM, hGM⟩ : ∃ g, w1.heap.size = g := ⟨_, rfl⟩
  obtain ⟨w2, hw2⟩ : ∃ wx, wx = w1.alloc (.cells #[.int .i64 P0, .int .i64 1, .int .i64 Y0] 54) := ⟨_, rfl⟩
  rw [← hw2, hGM]
  have HM : Hid (Bk3 w2 GM P0 1 Y0) := by rw [hw2, ← hGM]; exact bk3_new w1 P0 1 Y0 _
  have le_M : w.heap.size ≤ GM := by rw [← hGM]; exact HB.out.size
  have NOM : Hid (∀ k, (Value.slice (some ⟨w.heap.size, 0, none⟩) [(1 : Int)].length 1).ownBlock = some k → k ≠ GM) := fun k hk => by have := (World.ownsRow.lt HL.out k hk).2; omega
  have HL := Lib.hid (HL.out.below ((Below.refl _ _).alloc (Nat.le_refl _) (.cells #[.int .i64 P0, .int .i64 1, .int .i64 Y0] 54)))
  have HB := Lib.hid (Below.alloc HB.out HB.out.size (.cells #[.int .i64 P0, .int .i64 1, .int .i64 Y0] 54))
  rw [← hw2] at HL HB
  clear hw2 hGM
  go_wp2_with fail
  go_loopw [7, 9] (fun rv kv wr => ∃ (j : Nat) (L : List Int) (l : Int) (va : Option Addr) (vc : Nat), rcS (btK false p q) j = (L, l) ∧ rv = .slice va L.length vc ∧ kv = .int .i64 ((j : Int) + 2) ∧ (j : Int) + 1 ≤ n ∧ OwnI w.heap.size wr (.slice va L.length vc) L ∧ (∀ k, (Value.slice va L.length vc).ownBlock = some k → k ≠ GM) ∧ Bk3 wr GM (nrP (l * p) q) l (nrM (l * p) q) ∧ Below w.heap.size w wr) (fun _ kv _ => (n + 1 - intOf kv).toNat)
  case atStart => exact ⟨0, [1], 1, _, _, rfl, rfl, by go_num, by have := HF.out; omega, HL.out, NOM.out, by rw [HP0.out, HY0.out]; exact HM.out, HB.out⟩
  case round =>
    obtain ⟨j, L, l, va, vc, hj, rfl, rfl, hjn, hl, hno, hm, hbel⟩ := hrel
    clear HL HB HM NOM HV1 HP0 HY0
    have HL := Lib.hid hl
    have NOM := Lib.hid hno
    have HB := Lib.hid hbel
    have HJ := Lib.hid hj
    have hl1 := HS1.out j
    have hl2 := HS2.out j
    rw [hj] at hl1 hl2
    dsimp only at hl1 hl2
    have HLL := Lib.hid hl1
    obtain ⟨P, hP⟩ : ∃ X, nrP (l * p) q = X := ⟨_, rfl⟩
    obtain ⟨Y, hY⟩ : ∃ X, nrM (l * p) q = X := ⟨_, rfl⟩
    have hYb := nrM_bd (x := l * p) HQ.out.1
    rw [hP, hY] at hm
    rw [hY] at hYb
    have HM := Lib.hid hm
    have HY := Lib.hid hY
    have HPE := Lib.hid hP
    have HYE := Lib.hid hY
    clear hl hno hbel hm hj hl1 hP hY
    by_cases hlt : (j : Int) + 2 ≤ n
    · skip
      have HVK : Hid (∀ W, Below w.heap.size w W → Calls Try.prog 37 #[.int .i64 ((j : Int) + 2), .pointer (some ⟨gp, 0, none⟩), .pointer (some ⟨gq, 0, none⟩)] W fun e w' => e = .returned (.agg #[.int .i64 (nrP (((j : Int) + 2) * p) q), .int .i64 ((j : Int) + 2), .int .i64 (nrM (((j : Int) + 2) * p) q)]) ∧ Below W.heap.size W w') := fun W hW => HV.out W _ hW (by omega) (by omega)
      obtain ⟨X2, hX2⟩ : ∃ X, nrP (((j : Int) + 2) * p) q = X := ⟨_, rfl⟩
      obtain ⟨Y2, hY2⟩ : ∃ X, nrM (((j : Int) + 2) * p) q = X := ⟨_, rfl⟩
      have hY2b := nrM_bd (x := ((j : Int) + 2) * p) HQ.out.1
      rw [hX2, hY2] at HVK
      rw [hY2] at hY2b
      have HX2 := Lib.hid hX2
      have HY2 := Lib.hid hY2
      have hq2 := HQ.out.2
      have HLS : Hid (∀ w, Calls Try.prog 51 #[.agg #[.int .i64 X2, .int .i64 ((j : Int) + 2), .int .i64 Y2], .agg #[.int .i64 P, .int .i64 l, .int .i64 Y]] w fun e w' => e = .returned (.bool (decide (Y2 * l < Y * ((j : Int) + 2)))) ∧ Below w.heap.size w w') := fun w => isNearer_any _ _ _ _ _ _ w (by omega) (by omega) (by omega) (by omega)
      have HBT : Hid (btK false p q ((j : Int) + 2) l = decide (Y2 * l < Y * ((j : Int) + 2))) := by show _ = _; unfold btK; rw [HY.out, hY2]; rfl
      obtain ⟨bb, hbb⟩ : ∃ X, decide (Y2 * l < Y * ((j : Int) + 2)) = X := ⟨_, rfl⟩
      rw [hbb] at HLS HBT
      clear hX2 hY2 hbb hY2b hq2 hYb HV HY hl2
      obtain ⟨⟨qM0, qM1, qM2⟩, ⟨fM0, fM1, fM2⟩, zM⟩ := HM.out
      go_wp2_with fail
      go_at_call 37
      refine (HVK.out _ HB.out).mono ?_
      rintro e w21 ⟨rfl, hb⟩
      clear qM0 fM0 qM1 fM1 qM2 fM2 zM
      have HM := Lib.hid (HM.out.below hb)
      have HL := Lib.hid (HL.out.below hb)
      have HB := Lib.hid (below_after hb HB.out)
      clear hb
      obtain ⟨⟨qM0, qM1, qM2⟩, ⟨fM0, fM1, fM2⟩, zM⟩ := HM.out
      go_upto_region 6 with fail
      obtain ⟨GD, hGD⟩ : ∃ g, w21.heap.size = g := ⟨_, rfl⟩
      obtain ⟨w22, hw22⟩ : ∃ wx, wx = w21.alloc (.cells #[.int .i64 X2, .int .i64 (((j : Int) + 2)), .int .i64 Y2] 54) := ⟨_, rfl⟩
      rw [← hw22, hGD]
      have HD : Hid (Bk3 w22 GD X2 (((j : Int) + 2)) Y2) := by rw [hw22, ← hGD]; exact bk3_new w21 X2 (((j : Int) + 2)) Y2 _
      have le_D : w.heap.size ≤ GD := by rw [← hGD]; exact HB.out.size
      have ne_D_M : GD ≠ GM := by have := HM.out.2.2; omega
      have ne_M_D : GM ≠ GD := Ne.symm ne_D_M
      have NOD : Hid (∀ k, (Value.slice va L.length vc).ownBlock = some k → k ≠ GD) := fun k hk => by have := (World.ownsRow.lt HL.out k hk).2; omega
      clear qM0 fM0 qM1 fM1 qM2 fM2 zM
      have HM := Lib.hid (HM.out.below ((Below.refl _ _).alloc (Nat.le_refl _) (.cells #[.int .i64 X2, .int .i64 (((j : Int) + 2)), .int .i64 Y2] 54)))
      have HL := Lib.hid (HL.out.below ((Below.refl _ _).alloc (Nat.le_refl _) (.cells #[.int .i64 X2, .int .i64 (((j : Int) + 2)), .int .i64 Y2] 54)))
      have HB := Lib.hid (Below.alloc HB.out HB.out.size (.cells #[.int .i64 X2, .int .i64 (((j : Int) + 2)), .int .i64 Y2] 54))
      rw [← hw22] at HM HL HB
      clear hw22 hGD
      obtain ⟨⟨qM0, qM1, qM2⟩, ⟨fM0, fM1, fM2⟩, zM⟩ := HM.out
      obtain ⟨⟨qD0, qD1, qD2⟩, ⟨fD0, fD1, fD2⟩, zD⟩ := HD.out
      go_wp2_with fail
      go_at_call 51
      refine (HLS.out _).mono ?_
      rintro e w23 ⟨rfl, hb⟩
      clear qM0 fM0 qM1 fM1 qM2 fM2 zM qD0 fD0 qD1 fD1 qD2 fD2 zD
      have HM := Lib.hid (HM.out.below hb)
      have HD := Lib.hid (HD.out.below hb)
      have HL := Lib.hid (HL.out.below hb)
      have HB := Lib.hid (below_after hb HB.out)
      clear hb
      cases bb
      · skip
        have HN := Lib.hid ((rcS_no (bt := btK false p q) (n := j) (by rw [HJ.out]; exact HBT.out)).trans HJ.out)

        go_wp2_with fail
        go_roundw
        case rel => exact ⟨j + 1, _, _, _, _, HN.out, rfl, by go_num, by omega, HL.out, NOM.out, by rw [HPE.out, HYE.out]; exact HM.out, HB.out⟩
        case measure => simp only [intOf]; omega
      · skip
        have HN := Lib.hid ((rcS_yes (bt := btK false p q) (n := j) (by rw [HJ.out]; exact HBT.out)).trans (by rw [HJ.out]))
        dsimp only at HN
        go_wp2_with fail
        refine wp_region_held_drew (S := fun W => Below w.heap.size w W ∧ Bk3 W GD X2 (((j : Int) + 2)) Y2) (by kernel_rfl) ?_ (fun hHeld => ?_); focus ((try dsimp only); exact ⟨Below.drew HB.out, HD.out.below (Below.drew (Below.refl _ _))⟩)
        have HM := Lib.hid (HM.out.below (Below.drew (Below.refl _ _)))
        have HD := Lib.hid (HD.out.below (Below.drew (Below.refl _ _)))
        have HL := Lib.hid (HL.out.below (Below.drew (Below.refl _ _)))
        have hHeld : (fun W => Below w.heap.size w W ∧ Bk3 W GD X2 (((j : Int) + 2)) Y2) _ := hHeld
        obtain ⟨wD23, hwD23⟩ : ∃ wD, w23.drew = wD := ⟨_, rfl⟩
        rw [hwD23] at hHeld HM HD HL ⊢
        clear hwD23
        (refine wpAnyH_take (i := 0) (v := ?_) rfl (by kernel_rfl) (by kernel_rfl) (by kernel_rfl) (fun _ _ _ h => h) (Or.inl ⟨rfl, ?_⟩) (by assumption) ?_; rotate_left; focus (intro W hSw; (try dsimp only at hSw); obtain ⟨hSb, hxD⟩ := hSw; obtain ⟨⟨iD0, iD1, iD2⟩, _, _⟩ := hxD; go_simp; try (with_reducible rfl))); (try simp only [Act.put, List.getElem_toArray, List.getElem_cons_succ, List.getElem_cons_zero, List.setIfInBounds_toArray, List.set_cons_zero, List.set_cons_succ])
        (refine wpAnyH_take (i := 1) (v := ?_) rfl (by kernel_rfl) (by kernel_rfl) (by kernel_rfl) (fun _ _ _ h => h) (Or.inl ⟨rfl, ?_⟩) (by assumption) ?_; rotate_left; focus (intro W hSw; (try dsimp only at hSw); obtain ⟨hSb, hxD⟩ := hSw; obtain ⟨⟨iD0, iD1, iD2⟩, _, _⟩ := hxD; go_simp; try (with_reducible rfl))); (try simp only [Act.put, List.getElem_toArray, List.getElem_cons_succ, List.getElem_cons_zero, List.setIfInBounds_toArray, List.set_cons_zero, List.set_cons_succ])
        (refine wpAnyH_take (i := 4) (v := ?_) rfl (by kernel_rfl) (by kernel_rfl) (by kernel_rfl) (fun _ _ _ h => h) (Or.inl ⟨rfl, ?_⟩) (by assumption) ?_; rotate_left; focus (intro W hSw; (try dsimp only at hSw); obtain ⟨hSb, hxD⟩ := hSw; obtain ⟨⟨iD0, iD1, iD2⟩, _, _⟩ := hxD; go_simp; try (with_reducible rfl))); (try simp only [Act.put, List.getElem_toArray, List.getElem_cons_succ, List.getElem_cons_zero, List.setIfInBounds_toArray, List.set_cons_zero, List.set_cons_succ])
        refine wpAnyH_ready (rs := [2]) (by kernel_rfl) (by simp) ?_; refine AllReadyH.cons rfl (fun K hK => ?_) AllReadyH.nil
        go_simp; obtain ⟨GZ, hGZ⟩ : ∃ G, wD23.heap.size = G := ⟨_, rfl⟩; have le_Z : w.heap.size ≤ GZ := by rw [← hGZ]; exact Below.size hHeld.1
        have ne_Z_M : GZ ≠ GM := by have := HM.out.2.2; omega
        have ne_M_Z : GM ≠ GZ := Ne.symm ne_Z_M
        have ne_Z_D : GZ ≠ GD := by have := HD.out.2.2; omega
        have ne_D_Z : GD ≠ GZ := Ne.symm ne_Z_D
        have HM := Lib.hid (HM.out.below ((Below.refl _ _).alloc (Nat.le_refl _) (.cells #[.int .i64 (((j : Int) + 2))] 2))); have HD := Lib.hid (HD.out.below ((Below.refl _ _).alloc (Nat.le_refl _) (.cells #[.int .i64 (((j : Int) + 2))] 2))); have HL := Lib.hid (HL.out.below ((Below.refl _ _).alloc (Nat.le_refl _) (.cells #[.int .i64 (((j : Int) + 2))] 2))); skip
        have HZ : Hid (Bk1 (wD23.alloc (.cells #[.int .i64 (((j : Int) + 2))] 2)) GZ (((j : Int) + 2))) := by rw [← hGZ]; exact bk1_new wD23 (((j : Int) + 2)) _
        refine hK.out _ _ ⟨Below.alloc hHeld.1 (Below.size hHeld.1) _, HD.out⟩ (fun hHeld2 => ?_); (clear hHeld; rename _ => hHeld; clear hK K; have hHeld : (fun W => Below w.heap.size w W ∧ Bk3 W GD X2 (((j : Int) + 2)) Y2) _ := hHeld); (try simp only [Act.put, List.getElem_toArray, List.getElem_cons_succ, List.getElem_cons_zero, List.setIfInBounds_toArray, List.set_cons_zero, List.set_cons_succ])
        rw [hGZ]; clear hGZ; obtain ⟨ywr23x0, hwx⟩ : ∃ wx, wD23.alloc (.cells #[.int .i64 (((j : Int) + 2))] 2) = wx := ⟨_, rfl⟩; rw [hwx] at HM HD HL HZ hHeld ⊢; clear hwx
        refine wpAnyH_ready (rs := [3]) (by kernel_rfl) (by simp) ?_; refine AllReadyH.cons rfl (fun K hK => ?_) AllReadyH.nil
        refine wp_append_atI w.heap.size _ _ rfl HL.out HZ.out.1 (Below.size hHeld.1) rfl rfl (by have := HLL.out; omega) ?_; intro v' ywr23x1 hown' hgr hat
        have NNM := Lib.hid (no_next hat NOM.out HM.out.2.2)
        have HM := Lib.hid (HM.out.grows hgr (fun e => NOM.out _ e rfl))
        have NOM := NNM
        clear NNM
        have NND := Lib.hid (no_next hat NOD.out HD.out.2.2)
        have HD := Lib.hid (HD.out.grows hgr (fun e => NOD.out _ e rfl))
        have NOD := NND
        clear NND
        have hBn := Below.grown hHeld.1 hgr (Below.size hHeld.1) (fun k hk => (World.ownsRow.lt HL.out k hk).1)
        have HL := Lib.hid hown'
        obtain ⟨va', vc', rfl, _⟩ := own_view hown'
        refine hK.out _ _ ⟨hBn, HD.out⟩ (fun hHeld2 => ?_); clear hown' hgr hat hBn; (clear hHeld; rename _ => hHeld; clear hK K; have hHeld : (fun W => Below w.heap.size w W ∧ Bk3 W GD X2 (((j : Int) + 2)) Y2) _ := hHeld); (try simp only [Act.put, List.getElem_toArray, List.getElem_cons_succ, List.getElem_cons_zero, List.setIfInBounds_toArray, List.set_cons_zero, List.set_cons_succ])
        (refine wpAnyH_take (i := 5) (v := ?_) rfl (by kernel_rfl) (by kernel_rfl) (by kernel_rfl) (fun _ _ _ h => h) (Or.inl ⟨rfl, ?_⟩) (by assumption) ?_; rotate_left; focus (intro W hSw; (try dsimp only at hSw); obtain ⟨hSb, hxD⟩ := hSw; obtain ⟨⟨iD0, iD1, iD2⟩, _, _⟩ := hxD; go_simp; try (with_reducible rfl))); (try simp only [Act.put, List.getElem_toArray, List.getElem_cons_succ, List.getElem_cons_zero, List.setIfInBounds_toArray, List.set_cons_zero, List.set_cons_succ])
        refine wpAnyH_ready (rs := [6]) (by kernel_rfl) (by simp) ?_; refine AllReadyH.cons rfl (fun K hK => ?_) AllReadyH.nil
        obtain ⟨⟨a0, a1, a2⟩, ⟨f0, f1, f2⟩, az⟩ := HM.out; go_simp; clear a0 f0 a1 f1 a2 f2 az
        have HD := Lib.hid (((HD.out.far ⟨GM, 0, none⟩ (.int .i64 X2) (by show GD ≠ GM; exact ne_D_M)).far ⟨GM, 1, none⟩ (.int .i64 (((j : Int) + 2))) (by show GD ≠ GM; exact ne_D_M)).far ⟨GM, 2, none⟩ (.int .i64 Y2) (by show GD ≠ GM; exact ne_D_M))
        have HL := Lib.hid (((HL.out.farB ⟨GM, 0, none⟩ (.int .i64 X2) NOM.out).farB ⟨GM, 1, none⟩ (.int .i64 (((j : Int) + 2))) NOM.out).farB ⟨GM, 2, none⟩ (.int .i64 Y2) NOM.out)
        have HM := Lib.hid (((HM.out.set0 X2).set1 (((j : Int) + 2))).set2 Y2)
        refine hK.out _ _ ⟨(Below.setCell (Below.setCell (Below.setCell hHeld.1 (p := ⟨GM, 0, none⟩) le_M _) (p := ⟨GM, 1, none⟩) le_M _) (p := ⟨GM, 2, none⟩) le_M _), HD.out⟩ (fun hHeld2 => ?_); (clear hHeld; rename _ => hHeld; clear hK K; have hHeld : (fun W => Below w.heap.size w W ∧ Bk3 W GD X2 (((j : Int) + 2)) Y2) _ := hHeld); (try simp only [Act.put, List.getElem_toArray, List.getElem_cons_succ, List.getElem_cons_zero, List.setIfInBounds_toArray, List.set_cons_zero, List.set_cons_succ])
        obtain ⟨ywr23x2, hwx⟩ : ∃ wx, ((ywr23x1.setCell ⟨GM, 0, none⟩ (.int .i64 X2)).setCell ⟨GM, 1, none⟩ (.int .i64 (((j : Int) + 2)))).setCell ⟨GM, 2, none⟩ (.int .i64 Y2) = wx := ⟨_, rfl⟩; rw [hwx] at HM HD HL hHeld ⊢; clear hwx
        refine wpAnyH_done (by kernel_rfl) ?_ _
        have HB := Lib.hid (hHeld.1)
        clear hHeld
        go_wp2_with fail
        go_roundw
        case rel => exact ⟨j + 1, L ++ [(j : Int) + 2], (j : Int) + 2, va', vc', HN.out, by first | rfl | simp, by go_num, by omega, by first | exact HL.out | simpa using HL.out, by first | exact NOM.out | simpa using NOM.out, by rw [HX2.out, HY2.out]; exact HM.out, HB.out⟩
        case measure => simp only [intOf]; omega
    · skip
      have hjn2 : n.toNat - 1 = j := by omega
      have he : (rcS (btK false p q) (n.toNat - 1)).1 = L := by rw [hjn2, HJ.out]
      go_wp2_with fail
      go_ret
      exact ⟨_, rfl, by first | (rw [he]; exact HL.out) | (rw [HJ.out]; exact HL.out), HB.out⟩
end Go.Proofs.Ytibmkmcdggokbaa
