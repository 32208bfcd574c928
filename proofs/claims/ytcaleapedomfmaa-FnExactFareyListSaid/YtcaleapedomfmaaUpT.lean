/-
  The list of the fractions below a node, in the program (own work).
-/
import Derived.Test.YtcaleapedomfmaaCatP
import Derived.Test.YtcaleapedomfmaaNode
import Derived.Deep.DeepCutAuto
namespace Go.Proofs.Ytcaleapedomfmaa
open Go.ChangeShapes Go.WideShapes Go.ChangeAt Go.RowKit
set_option linter.unusedVariables false
set_option linter.unusedSimpArgs false
set_option maxRecDepth 100000

/-- The fractions of a node and of those below it with second numbers of at most o, ascending. -/
def flT : Nat → Int → Int → Int → Int → Int → Int → Int → List (Int × Int)
  | 0, _, _, _, _, _, _, _ => []
  | d + 1, o, F0, F1, L0, L1, G0, G1 => if o < F1 then [] else flT d o (F0 + L0) (F1 + L1) L0 L1 F0 F1 ++ [(F0, F1)] ++ flT d o (F0 + G0) (F1 + G1) F0 F1 G0 G1
theorem flT_len : ∀ (d : Nat) (o F0 F1 L0 L1 G0 G1 : Int), (flT d o F0 F1 L0 L1 G0 G1).length + 1 ≤ 2 ^ d
  | 0, _, _, _, _, _, _, _ => by simp [flT]
  | d + 1, o, F0, F1, L0, L1, G0, G1 => by
    unfold flT
    have h1 := flT_len d o (F0 + L0) (F1 + L1) L0 L1 F0 F1
    have h2 := flT_len d o (F0 + G0) (F1 + G1) F0 F1 G0 G1
    rw [Nat.pow_succ]
    split
    · simp; omega
    · simp only [List.length_append, List.length_cons, List.length_nil]; omega
theorem flT_16 {d : Nat} (hd : d ≤ 16) (o F0 F1 L0 L1 G0 G1 : Int) : (flT d o F0 F1 L0 L1 G0 G1).length ≤ 200000 := by
  have h1 := flT_len d o F0 F1 L0 L1 G0 G1
  have h2 : 2 ^ d ≤ 2 ^ 16 := Nat.pow_le_pow_right (by decide) hd
  have e : (2 : Nat) ^ 16 = 65536 := by decide
  rw [e] at h2
  omega
/-- A node whose fractions are small. -/
def Bd (o : Int) (d : Nat) (F0 F1 L0 L1 G0 G1 : Int) : Prop := 0 ≤ F0 ∧ 0 ≤ L0 ∧ 0 ≤ G0 ∧ F0 ≤ F1 ∧ L0 ≤ L1 ∧ G0 ≤ G1 ∧ 1 ≤ L1 ∧ 1 ≤ G1 ∧ L1 ≤ 16 ∧ G1 ≤ 16 ∧ F1 ≤ 32 ∧ 1 ≤ F1 ∧ o + 1 - F1 ≤ d ∧ o ≤ 16
theorem Bd.left {o : Int} {d : Nat} {F0 F1 L0 L1 G0 G1 : Int} (h : Bd o (d + 1) F0 F1 L0 L1 G0 G1) (k : F1 ≤ o) : Bd o d (F0 + L0) (F1 + L1) L0 L1 F0 F1 := by unfold Bd at *; omega
theorem Bd.right {o : Int} {d : Nat} {F0 F1 L0 L1 G0 G1 : Int} (h : Bd o (d + 1) F0 F1 L0 L1 G0 G1) (k : F1 ≤ o) : Bd o d (F0 + G0) (F1 + G1) F0 F1 G0 G1 := by unfold Bd at *; omega
theorem own_lit1q (w : World) (B k : Nat) (x y : Int) (hk : k = w.heap.size) (hb : B ≤ k) : OwnF B (w.alloc (.cells #[.int .i64 x, .int .i64 y] 24)) (.slice (some ⟨k, 0, none⟩) 1 1) 1 (flat [(x, y)]) := by
  subst hk
  exact World.ownsRow_lit w #[.int .i64 x, .int .i64 y] 1 hb (by decide) rfl
set_option maxHeartbeats 6400000 in
theorem upTo_any (o : Int) : ∀ (d : Nat), d ≤ 17 → ∀ (n : Nat) (F0 F1 L0 L1 G0 G1 : Int) (w : World), Nt w n F0 F1 L0 L1 G0 G1 → Bd o d F0 F1 L0 L1 G0 G1 →
    Calls Try.prog 29 #[.pointer (some ⟨n, 0, none⟩), .int .i64 o] w (RetQ w (flT d o F0 F1 L0 L1 G0 G1)) := by
  intro d
  induction d with
  | zero =>
    intro hd n F0 F1 L0 L1 G0 G1 w hn hb
    have hgt : o < F1 := by unfold Bd at hb; omega
    obtain ⟨l, g, ⟨f0, f1⟩, _⟩ := hn
    have hg : decide (o < F1) = true := by simpa using hgt
    clear hb
    go_enter Try.func29, Try.ntmps29
    go_wp2_with fail
    go_ret
    exact ⟨_, rfl, World.ownsRow_nil _ _ _ _, Below.refl _ _⟩
  | succ d ih =>
    intro hd n F0 F1 L0 L1 G0 G1 w hn hb
    by_cases hgt : o < F1
    · rw [flT, if_pos hgt]
      obtain ⟨l, g, ⟨f0, f1⟩, _⟩ := hn
      have hg : decide (o < F1) = true := by simpa using hgt
      clear hb ih
      go_enter Try.func29, Try.ntmps29
      go_wp2_with fail
      go_ret
      exact ⟨_, rfl, World.ownsRow_nil _ _ _ _, Below.refl _ _⟩
    · rw [flT, if_neg hgt]
      have HIH := Lib.hid (ih (by omega))
      have HBD : Hid (Bd o d (F0 + L0) (F1 + L1) L0 L1 F0 F1 ∧ Bd o d (F0 + G0) (F1 + G1) F0 F1 G0 G1) := ⟨hb.left (by omega), hb.right (by omega)⟩
      have HLN : Hid ((flT d o (F0 + L0) (F1 + L1) L0 L1 F0 F1).length ≤ 200000 ∧ (flT d o (F0 + G0) (F1 + G1) F0 F1 G0 G1).length ≤ 200000) := ⟨flT_16 (by omega) _ _ _ _ _ _ _, flT_16 (by omega) _ _ _ _ _ _ _⟩
      have HW : Hid ((Wn F0 ∧ Wn F1) ∧ (Wn L0 ∧ Wn L1) ∧ (Wn G0 ∧ Wn G1)) := by
        unfold Bd at hb
        refine ⟨⟨⟨?_, ?_⟩, ⟨?_, ?_⟩⟩, ⟨⟨?_, ?_⟩, ⟨?_, ?_⟩⟩, ⟨?_, ?_⟩, ⟨?_, ?_⟩⟩ <;> omega
      have HNT := Lib.hid hn
      have hF : Fc w n F0 F1 := by obtain ⟨l, g, h, _⟩ := hn; exact h
      have HX : Hid (∀ W, Below w.heap.size w W → W.cell? ⟨n, 0, none⟩ = some (.int .i64 F0) ∧ W.cell? ⟨n, 1, none⟩ = some (.int .i64 F1)) := fun W hW => hF.below hW
      obtain ⟨f0, f1⟩ := hF
      have hg : decide (o < F1) = false := by simpa using hgt
      clear hb ih hn
      go_enter Try.func29, Try.ntmps29
      go_upto_region 3 with fail
      clear f0 f1
      refine wp_region_held_drew (S := fun W => Below w.heap.size w W) (by kernel_rfl) ?_ (fun hHeld => ?_); focus ((try dsimp only); exact (Below.refl _ _).drew)
      have hHeld : Below w.heap.size w _ := hHeld
      obtain ⟨wA, hwA⟩ : ∃ wD, w.drew = wD := ⟨_, rfl⟩
      rw [hwA] at hHeld ⊢
      clear hwA
      (refine wpAnyH_take (i := 0) (v := ?_) rfl (by kernel_rfl) (by kernel_rfl) (by kernel_rfl) (fun _ _ _ h => h) (Or.inl ⟨rfl, ?_⟩) (by assumption) ?_; rotate_left; focus (intro W hSw; (try dsimp only at hSw); obtain ⟨i0, i1⟩ := HX.out _ hSw; go_simp; try (with_reducible rfl))); (try simp only [Act.put, List.getElem_toArray, List.getElem_cons_succ, List.getElem_cons_zero, List.setIfInBounds_toArray, List.set_cons_zero, List.set_cons_succ])
      (refine wpAnyH_take (i := 2) (v := ?_) rfl (by kernel_rfl) (by kernel_rfl) (by kernel_rfl) (fun _ _ _ h => h) (Or.inl ⟨rfl, ?_⟩) (by assumption) ?_; rotate_left; focus (intro W hSw; (try dsimp only at hSw); obtain ⟨i0, i1⟩ := HX.out _ hSw; go_simp; try (with_reducible rfl))); (try simp only [Act.put, List.getElem_toArray, List.getElem_cons_succ, List.getElem_cons_zero, List.setIfInBounds_toArray, List.set_cons_zero, List.set_cons_succ])
      (refine wpAnyH_take (i := 4) (v := ?_) rfl (by kernel_rfl) (by kernel_rfl) (by kernel_rfl) (fun _ _ _ h => h) (Or.inl ⟨rfl, ?_⟩) (by assumption) ?_; rotate_left; focus (intro W hSw; (try dsimp only at hSw); obtain ⟨i0, i1⟩ := HX.out _ hSw; go_simp; try (with_reducible rfl))); (try simp only [Act.put, List.getElem_toArray, List.getElem_cons_succ, List.getElem_cons_zero, List.setIfInBounds_toArray, List.set_cons_zero, List.set_cons_succ])
      (refine wpAnyH_take (i := 5) (v := ?_) rfl (by kernel_rfl) (by kernel_rfl) (by kernel_rfl) (fun _ _ _ h => h) (Or.inl ⟨rfl, ?_⟩) (by assumption) ?_; rotate_left; focus (intro W hSw; (try dsimp only at hSw); obtain ⟨i0, i1⟩ := HX.out _ hSw; go_simp; try (with_reducible rfl))); (try simp only [Act.put, List.getElem_toArray, List.getElem_cons_succ, List.getElem_cons_zero, List.setIfInBounds_toArray, List.set_cons_zero, List.set_cons_succ])
      (refine wpAnyH_take (i := 6) (v := ?_) rfl (by kernel_rfl) (by kernel_rfl) (by kernel_rfl) (fun _ _ _ h => h) (Or.inl ⟨rfl, ?_⟩) (by assumption) ?_; rotate_left; focus (intro W hSw; (try dsimp only at hSw); obtain ⟨i0, i1⟩ := HX.out _ hSw; go_simp; try (with_reducible rfl))); (try simp only [Act.put, List.getElem_toArray, List.getElem_cons_succ, List.getElem_cons_zero, List.setIfInBounds_toArray, List.set_cons_zero, List.set_cons_succ])
      (refine wpAnyH_take (i := 7) (v := ?_) rfl (by kernel_rfl) (by kernel_rfl) (by kernel_rfl) (fun _ _ _ h => h) (Or.inl ⟨rfl, ?_⟩) (by assumption) ?_; rotate_left; focus (intro W hSw; (try dsimp only at hSw); obtain ⟨i0, i1⟩ := HX.out _ hSw; go_simp; try (with_reducible rfl))); (try simp only [Act.put, List.getElem_toArray, List.getElem_cons_succ, List.getElem_cons_zero, List.setIfInBounds_toArray, List.set_cons_zero, List.set_cons_succ])
      (refine wpAnyH_take (i := 9) (v := ?_) rfl (by kernel_rfl) (by kernel_rfl) (by kernel_rfl) (fun _ _ _ h => h) (Or.inl ⟨rfl, ?_⟩) (by assumption) ?_; rotate_left; focus (intro W hSw; (try dsimp only at hSw); obtain ⟨i0, i1⟩ := HX.out _ hSw; go_simp; try (with_reducible rfl))); (try simp only [Act.put, List.getElem_toArray, List.getElem_cons_succ, List.getElem_cons_zero, List.setIfInBounds_toArray, List.set_cons_zero, List.set_cons_succ])
      (refine wpAnyH_take (i := 11) (v := ?_) rfl (by kernel_rfl) (by kernel_rfl) (by kernel_rfl) (fun _ _ _ h => h) (Or.inl ⟨rfl, ?_⟩) (by assumption) ?_; rotate_left; focus (intro W hSw; (try dsimp only at hSw); obtain ⟨i0, i1⟩ := HX.out _ hSw; go_simp; try (with_reducible rfl))); (try simp only [Act.put, List.getElem_toArray, List.getElem_cons_succ, List.getElem_cons_zero, List.setIfInBounds_toArray, List.set_cons_zero, List.set_cons_succ])
      refine wpAnyH_ready (rs := [1, 8]) (by kernel_rfl) (by simp) ?_; refine AllReadyH.cons rfl (fun K hK => ?_) (AllReadyH.cons rfl (fun K hK => ?_) AllReadyH.nil)
      · skip
        go_simp; (go_at_call 28; refine (left_any n F0 F1 L0 L1 G0 G1 _ (HNT.out.below hHeld) HW.out.1.1 HW.out.1.2 HW.out.2.1.1 HW.out.2.1.2).mono ?_; rintro en y0 ⟨n1, rfl, ht, hl, hb2⟩); have Hn1 := Lib.hid ht; refine hK.out _ _ (below_after hb2 hHeld) (fun hHeld2 => ?_); clear hb2 ht hl; (clear hHeld; rename _ => hHeld; clear hK K; have hHeld : Below w.heap.size w _ := hHeld); (try simp only [Act.put, List.getElem_toArray, List.getElem_cons_succ, List.getElem_cons_zero, List.setIfInBounds_toArray, List.set_cons_zero, List.set_cons_succ])
        refine wpAnyH_ready (rs := [3, 8]) (by kernel_rfl) (by simp) ?_; refine AllReadyH.cons rfl (fun K hK => ?_) (AllReadyH.cons rfl (fun K hK => ?_) AllReadyH.nil)
        · skip
          go_simp; (go_at_call 29; refine (HIH.out n1 _ _ _ _ _ _ _ Hn1.out HBD.out.1).mono ?_; rintro en y1 ⟨vax, rfl, ho, hb2⟩); obtain ⟨vaa, vac, rfl, _⟩ := own_viewF ho; have Hva := Lib.hid (show OwnF w.heap.size y1 _ _ _ from own_up ho (Below.size hHeld)); have Hn1 := Lib.hid (Hn1.out.below hb2); refine hK.out _ _ (below_after hb2 hHeld) (fun hHeld2 => ?_); clear hb2 ho; (clear hHeld; rename _ => hHeld; clear hK K; have hHeld : Below w.heap.size w _ := hHeld); (try simp only [Act.put, List.getElem_toArray, List.getElem_cons_succ, List.getElem_cons_zero, List.setIfInBounds_toArray, List.set_cons_zero, List.set_cons_succ])
          refine wpAnyH_ready (rs := [8, 10]) (by kernel_rfl) (by simp) ?_; refine AllReadyH.cons rfl (fun K hK => ?_) (AllReadyH.cons rfl (fun K hK => ?_) AllReadyH.nil)
          · skip
            go_simp; obtain ⟨GA, hGA⟩ : ∃ G, y1.heap.size = G := ⟨_, rfl⟩
            have Hn1 := Lib.hid (Hn1.out.below ((Below.refl _ _).alloc (Nat.le_refl _) (.cells #[.int .i64 F0, .int .i64 F1] 24))); have Hva := Lib.hid (Hva.out.below ((Below.refl _ _).alloc (Nat.le_refl _) (.cells #[.int .i64 F0, .int .i64 F1] 24))); skip
            have HA : Hid (OwnF w.heap.size (y1.alloc (.cells #[.int .i64 F0, .int .i64 F1] 24)) (.slice (some ⟨GA, 0, none⟩) 1 1) 1 (flat [(F0, F1)])) := own_lit1q y1 w.heap.size GA F0 F1 hGA.symm (by rw [← hGA]; exact Below.size hHeld)
            refine hK.out _ _ (Below.alloc hHeld (Below.size hHeld) _) (fun hHeld2 => ?_); (clear hHeld; rename _ => hHeld; clear hK K; have hHeld : Below w.heap.size w _ := hHeld); (try simp only [Act.put, List.getElem_toArray, List.getElem_cons_succ, List.getElem_cons_zero, List.setIfInBounds_toArray, List.set_cons_zero, List.set_cons_succ])
            rw [hGA]; clear hGA; obtain ⟨y2, hwx⟩ : ∃ wx, y1.alloc (.cells #[.int .i64 F0, .int .i64 F1] 24) = wx := ⟨_, rfl⟩; rw [hwx] at Hn1 Hva HA hHeld ⊢; clear hwx
            refine wpAnyH_ready (rs := [10]) (by kernel_rfl) (by simp) ?_; refine AllReadyH.cons rfl (fun K hK => ?_) AllReadyH.nil
            go_simp; (go_at_call 36; refine (right_any n F0 F1 L0 L1 G0 G1 _ (HNT.out.below hHeld) HW.out.1.1 HW.out.1.2 HW.out.2.2.1 HW.out.2.2.2).mono ?_; rintro en y3 ⟨n2, rfl, ht, hl, hb2⟩); have Hn2 := Lib.hid ht; have Hn1 := Lib.hid (Hn1.out.below hb2); have Hva := Lib.hid (Hva.out.below hb2); have HA := Lib.hid (HA.out.below hb2); refine hK.out _ _ (below_after hb2 hHeld) (fun hHeld2 => ?_); clear hb2 ht hl; (clear hHeld; rename _ => hHeld; clear hK K; have hHeld : Below w.heap.size w _ := hHeld); (try simp only [Act.put, List.getElem_toArray, List.getElem_cons_succ, List.getElem_cons_zero, List.setIfInBounds_toArray, List.set_cons_zero, List.set_cons_succ])
            refine wpAnyH_ready (rs := [12]) (by kernel_rfl) (by simp) ?_; refine AllReadyH.cons rfl (fun K hK => ?_) AllReadyH.nil
            go_simp; (go_at_call 29; refine (HIH.out n2 _ _ _ _ _ _ _ Hn2.out HBD.out.2).mono ?_; rintro en y4 ⟨vbx, rfl, ho, hb2⟩); obtain ⟨vba, vbc, rfl, _⟩ := own_viewF ho; have Hvb := Lib.hid (show OwnF w.heap.size y4 _ _ _ from own_up ho (Below.size hHeld)); have Hn1 := Lib.hid (Hn1.out.below hb2); have Hva := Lib.hid (Hva.out.below hb2); have HA := Lib.hid (HA.out.below hb2); have Hn2 := Lib.hid (Hn2.out.below hb2); refine hK.out _ _ (below_after hb2 hHeld) (fun hHeld2 => ?_); clear hb2 ho; (clear hHeld; rename _ => hHeld; clear hK K; have hHeld : Below w.heap.size w _ := hHeld); (try simp only [Act.put, List.getElem_toArray, List.getElem_cons_succ, List.getElem_cons_zero, List.setIfInBounds_toArray, List.set_cons_zero, List.set_cons_succ])
            refine wpAnyH_ready (rs := [13]) (by kernel_rfl) (by simp) ?_; refine AllReadyH.cons rfl (fun K hK => ?_) AllReadyH.nil
            go_simp; obtain ⟨GQ, hGQ⟩ : ∃ G, y4.heap.size = G := ⟨_, rfl⟩
            have Hn1 := Lib.hid (Hn1.out.below ((Below.refl _ _).alloc (Nat.le_refl _) (.cells #[.slice vaa (flT d o (F0 + L0) (F1 + L1) L0 L1 F0 F1).length vac, .slice (some ⟨GA, 0, none⟩) 1 1, .slice vba (flT d o (F0 + G0) (F1 + G1) F0 F1 G0 G1).length vbc] 30))); have Hva := Lib.hid (Hva.out.below ((Below.refl _ _).alloc (Nat.le_refl _) (.cells #[.slice vaa (flT d o (F0 + L0) (F1 + L1) L0 L1 F0 F1).length vac, .slice (some ⟨GA, 0, none⟩) 1 1, .slice vba (flT d o (F0 + G0) (F1 + G1) F0 F1 G0 G1).length vbc] 30))); have HA := Lib.hid (HA.out.below ((Below.refl _ _).alloc (Nat.le_refl _) (.cells #[.slice vaa (flT d o (F0 + L0) (F1 + L1) L0 L1 F0 F1).length vac, .slice (some ⟨GA, 0, none⟩) 1 1, .slice vba (flT d o (F0 + G0) (F1 + G1) F0 F1 G0 G1).length vbc] 30))); have Hn2 := Lib.hid (Hn2.out.below ((Below.refl _ _).alloc (Nat.le_refl _) (.cells #[.slice vaa (flT d o (F0 + L0) (F1 + L1) L0 L1 F0 F1).length vac, .slice (some ⟨GA, 0, none⟩) 1 1, .slice vba (flT d o (F0 + G0) (F1 + G1) F0 F1 G0 G1).length vbc] 30))); have Hvb := Lib.hid (Hvb.out.below ((Below.refl _ _).alloc (Nat.le_refl _) (.cells #[.slice vaa (flT d o (F0 + L0) (F1 + L1) L0 L1 F0 F1).length vac, .slice (some ⟨GA, 0, none⟩) 1 1, .slice vba (flT d o (F0 + G0) (F1 + G1) F0 F1 G0 G1).length vbc] 30))); skip
            have HQ : Hid (GQ < (y4.alloc (.cells #[.slice vaa (flT d o (F0 + L0) (F1 + L1) L0 L1 F0 F1).length vac, .slice (some ⟨GA, 0, none⟩) 1 1, .slice vba (flT d o (F0 + G0) (F1 + G1) F0 F1 G0 G1).length vbc] 30)).heap.size ∧ (y4.alloc (.cells #[.slice vaa (flT d o (F0 + L0) (F1 + L1) L0 L1 F0 F1).length vac, .slice (some ⟨GA, 0, none⟩) 1 1, .slice vba (flT d o (F0 + G0) (F1 + G1) F0 F1 G0 G1).length vbc] 30)).cell? ⟨GQ, 0, none⟩ = some (.slice vaa (flT d o (F0 + L0) (F1 + L1) L0 L1 F0 F1).length vac) ∧ (y4.alloc (.cells #[.slice vaa (flT d o (F0 + L0) (F1 + L1) L0 L1 F0 F1).length vac, .slice (some ⟨GA, 0, none⟩) 1 1, .slice vba (flT d o (F0 + G0) (F1 + G1) F0 F1 G0 G1).length vbc] 30)).cell? ⟨GQ, 1, none⟩ = some (.slice (some ⟨GA, 0, none⟩) 1 1) ∧ (y4.alloc (.cells #[.slice vaa (flT d o (F0 + L0) (F1 + L1) L0 L1 F0 F1).length vac, .slice (some ⟨GA, 0, none⟩) 1 1, .slice vba (flT d o (F0 + G0) (F1 + G1) F0 F1 G0 G1).length vbc] 30)).cell? ⟨GQ, 2, none⟩ = some (.slice vba (flT d o (F0 + G0) (F1 + G1) F0 F1 G0 G1).length vbc)) := by
              subst hGQ
              refine ⟨by simp, ?_, ?_, ?_⟩ <;> go_cell
            refine hK.out _ _ (Below.alloc hHeld (Below.size hHeld) _) (fun hHeld2 => ?_); (clear hHeld; rename _ => hHeld; clear hK K; have hHeld : Below w.heap.size w _ := hHeld); (try simp only [Act.put, List.getElem_toArray, List.getElem_cons_succ, List.getElem_cons_zero, List.setIfInBounds_toArray, List.set_cons_zero, List.set_cons_succ])
            rw [hGQ]; clear hGQ; obtain ⟨y5, hwx⟩ : ∃ wx, y4.alloc (.cells #[.slice vaa (flT d o (F0 + L0) (F1 + L1) L0 L1 F0 F1).length vac, .slice (some ⟨GA, 0, none⟩) 1 1, .slice vba (flT d o (F0 + G0) (F1 + G1) F0 F1 G0 G1).length vbc] 30) = wx := ⟨_, rfl⟩; rw [hwx] at Hn1 Hva HA Hn2 Hvb HQ hHeld ⊢; clear hwx
            refine wpAnyH_ready (rs := [14]) (by kernel_rfl) (by simp) ?_; refine AllReadyH.cons rfl (fun K hK => ?_) AllReadyH.nil
            go_simp; (go_at_call 27; refine (concatP3_any GQ 3 _ _ _ _ _ _ (flT d o (F0 + L0) (F1 + L1) L0 L1 F0 F1) [(F0, F1)] (flT d o (F0 + G0) (F1 + G1) F0 F1 G0 G1) _ HQ.out.1 HQ.out.2.1 HQ.out.2.2.1 HQ.out.2.2.2 Hva.out HA.out Hvb.out HLN.out.1 (by simp) HLN.out.2 (by simp only [List.length_cons, List.length_nil]; omega)).mono ?_; rintro en y6 ⟨vr, rfl, ho, hb2⟩); have HR := Lib.hid (show OwnF w.heap.size y6 _ _ _ from own_up ho (Below.size hHeld)); refine hK.out _ _ (below_after hb2 hHeld) (fun hHeld2 => ?_); clear hb2 ho; (clear hHeld; rename _ => hHeld; clear hK K; have hHeld : Below w.heap.size w _ := hHeld); (try simp only [Act.put, List.getElem_toArray, List.getElem_cons_succ, List.getElem_cons_zero, List.setIfInBounds_toArray, List.set_cons_zero, List.set_cons_succ])
            (refine wpAnyH_take (i := 15) (v := ?_) rfl (by kernel_rfl) (by kernel_rfl) (by kernel_rfl) (fun _ _ _ h => h) (Or.inl ⟨rfl, ?_⟩) (by assumption) ?_; rotate_left; focus (intro W hSw; (try dsimp only at hSw); obtain ⟨i0, i1⟩ := HX.out _ hSw; go_simp; try (with_reducible rfl))); (try simp only [Act.put, List.getElem_toArray, List.getElem_cons_succ, List.getElem_cons_zero, List.setIfInBounds_toArray, List.set_cons_zero, List.set_cons_succ])
            refine wpAnyH_done (by kernel_rfl) ?_ _
            have hbF := hHeld
            clear hHeld
            go_wp2_with fail
            go_ret
            refine ⟨vr, rfl, ?_, hbF⟩
            have h := HR.out
            simp only [List.append_assoc, List.cons_append, List.nil_append] at h ⊢
            exact h
          · skip
            go_simp; (go_at_call 36; refine (right_any n F0 F1 L0 L1 G0 G1 _ (HNT.out.below hHeld) HW.out.1.1 HW.out.1.2 HW.out.2.2.1 HW.out.2.2.2).mono ?_; rintro en y2 ⟨n2, rfl, ht, hl, hb2⟩); have Hn2 := Lib.hid ht; have Hn1 := Lib.hid (Hn1.out.below hb2); have Hva := Lib.hid (Hva.out.below hb2); refine hK.out _ _ (below_after hb2 hHeld) (fun hHeld2 => ?_); clear hb2 ht hl; (clear hHeld; rename _ => hHeld; clear hK K; have hHeld : Below w.heap.size w _ := hHeld); (try simp only [Act.put, List.getElem_toArray, List.getElem_cons_succ, List.getElem_cons_zero, List.setIfInBounds_toArray, List.set_cons_zero, List.set_cons_succ])
            refine wpAnyH_ready (rs := [8, 12]) (by kernel_rfl) (by simp) ?_; refine AllReadyH.cons rfl (fun K hK => ?_) (AllReadyH.cons rfl (fun K hK => ?_) AllReadyH.nil)
            · skip
              go_simp; obtain ⟨GA, hGA⟩ : ∃ G, y2.heap.size = G := ⟨_, rfl⟩
              have Hn1 := Lib.hid (Hn1.out.below ((Below.refl _ _).alloc (Nat.le_refl _) (.cells #[.int .i64 F0, .int .i64 F1] 24))); have Hva := Lib.hid (Hva.out.below ((Below.refl _ _).alloc (Nat.le_refl _) (.cells #[.int .i64 F0, .int .i64 F1] 24))); have Hn2 := Lib.hid (Hn2.out.below ((Below.refl _ _).alloc (Nat.le_refl _) (.cells #[.int .i64 F0, .int .i64 F1] 24))); skip
              have HA : Hid (OwnF w.heap.size (y2.alloc (.cells #[.int .i64 F0, .int .i64 F1] 24)) (.slice (some ⟨GA, 0, none⟩) 1 1) 1 (flat [(F0, F1)])) := own_lit1q y2 w.heap.size GA F0 F1 hGA.symm (by rw [← hGA]; exact Below.size hHeld)
              refine hK.out _ _ (Below.alloc hHeld (Below.size hHeld) _) (fun hHeld2 => ?_); (clear hHeld; rename _ => hHeld; clear hK K; have hHeld : Below w.heap.size w _ := hHeld); (try simp only [Act.put, List.getElem_toArray, List.getElem_cons_succ, List.getElem_cons_zero, List.setIfInBounds_toArray, List.set_cons_zero, List.set_cons_succ])
              rw [hGA]; clear hGA; obtain ⟨y3, hwx⟩ : ∃ wx, y2.alloc (.cells #[.int .i64 F0, .int .i64 F1] 24) = wx := ⟨_, rfl⟩; rw [hwx] at Hn1 Hva Hn2 HA hHeld ⊢; clear hwx
              refine wpAnyH_ready (rs := [12]) (by kernel_rfl) (by simp) ?_; refine AllReadyH.cons rfl (fun K hK => ?_) AllReadyH.nil
              go_simp; (go_at_call 29; refine (HIH.out n2 _ _ _ _ _ _ _ Hn2.out HBD.out.2).mono ?_; rintro en y4 ⟨vbx, rfl, ho, hb2⟩); obtain ⟨vba, vbc, rfl, _⟩ := own_viewF ho; have Hvb := Lib.hid (show OwnF w.heap.size y4 _ _ _ from own_up ho (Below.size hHeld)); have Hn1 := Lib.hid (Hn1.out.below hb2); have Hva := Lib.hid (Hva.out.below hb2); have Hn2 := Lib.hid (Hn2.out.below hb2); have HA := Lib.hid (HA.out.below hb2); refine hK.out _ _ (below_after hb2 hHeld) (fun hHeld2 => ?_); clear hb2 ho; (clear hHeld; rename _ => hHeld; clear hK K; have hHeld : Below w.heap.size w _ := hHeld); (try simp only [Act.put, List.getElem_toArray, List.getElem_cons_succ, List.getElem_cons_zero, List.setIfInBounds_toArray, List.set_cons_zero, List.set_cons_succ])
              refine wpAnyH_ready (rs := [13]) (by kernel_rfl) (by simp) ?_; refine AllReadyH.cons rfl (fun K hK => ?_) AllReadyH.nil
              go_simp; obtain ⟨GQ, hGQ⟩ : ∃ G, y4.heap.size = G := ⟨_, rfl⟩
              have Hn1 := Lib.hid (Hn1.out.below ((Below.refl _ _).alloc (Nat.le_refl _) (.cells #[.slice vaa (flT d o (F0 + L0) (F1 + L1) L0 L1 F0 F1).length vac, .slice (some ⟨GA, 0, none⟩) 1 1, .slice vba (flT d o (F0 + G0) (F1 + G1) F0 F1 G0 G1).length vbc] 30))); have Hva := Lib.hid (Hva.out.below ((Below.refl _ _).alloc (Nat.le_refl _) (.cells #[.slice vaa (flT d o (F0 + L0) (F1 + L1) L0 L1 F0 F1).length vac, .slice (some ⟨GA, 0, none⟩) 1 1, .slice vba (flT d o (F0 + G0) (F1 + G1) F0 F1 G0 G1).length vbc] 30))); have Hn2 := Lib.hid (Hn2.out.below ((Below.refl _ _).alloc (Nat.le_refl _) (.cells #[.slice vaa (flT d o (F0 + L0) (F1 + L1) L0 L1 F0 F1).length vac, .slice (some ⟨GA, 0, none⟩) 1 1, .slice vba (flT d o (F0 + G0) (F1 + G1) F0 F1 G0 G1).length vbc] 30))); have HA := Lib.hid (HA.out.below ((Below.refl _ _).alloc (Nat.le_refl _) (.cells #[.slice vaa (flT d o (F0 + L0) (F1 + L1) L0 L1 F0 F1).length vac, .slice (some ⟨GA, 0, none⟩) 1 1, .slice vba (flT d o (F0 + G0) (F1 + G1) F0 F1 G0 G1).length vbc] 30))); have Hvb := Lib.hid (Hvb.out.below ((Below.refl _ _).alloc (Nat.le_refl _) (.cells #[.slice vaa (flT d o (F0 + L0) (F1 + L1) L0 L1 F0 F1).length vac, .slice (some ⟨GA, 0, none⟩) 1 1, .slice vba (flT d o (F0 + G0) (F1 + G1) F0 F1 G0 G1).length vbc] 30))); skip
              have HQ : Hid (GQ < (y4.alloc (.cells #[.slice vaa (flT d o (F0 + L0) (F1 + L1) L0 L1 F0 F1).length vac, .slice (some ⟨GA, 0, none⟩) 1 1, .slice vba (flT d o (F0 + G0) (F1 + G1) F0 F1 G0 G1).length vbc] 30)).heap.size ∧ (y4.alloc (.cells #[.slice vaa (flT d o (F0 + L0) (F1 + L1) L0 L1 F0 F1).length vac, .slice (some ⟨GA, 0, none⟩) 1 1, .slice vba (flT d o (F0 + G0) (F1 + G1) F0 F1 G0 G1).length vbc] 30)).cell? ⟨GQ, 0, none⟩ = some (.slice vaa (flT d o (F0 + L0) (F1 + L1) L0 L1 F0 F1).length vac) ∧ (y4.alloc (.cells #[.slice vaa (flT d o (F0 + L0) (F1 + L1) L0 L1 F0 F1).length vac, .slice (some ⟨GA, 0, none⟩) 1 1, .slice vba (flT d o (F0 + G0) (F1 + G1) F0 F1 G0 G1).length vbc] 30)).cell? ⟨GQ, 1, none⟩ = some (.slice (some ⟨GA, 0, none⟩) 1 1) ∧ (y4.alloc (.cells #[.slice vaa (flT d o (F0 + L0) (F1 + L1) L0 L1 F0 F1).length vac, .slice (some ⟨GA, 0, none⟩) 1 1, .slice vba (flT d o (F0 + G0) (F1 + G1) F0 F1 G0 G1).length vbc] 30)).cell? ⟨GQ, 2, none⟩ = some (.slice vba (flT d o (F0 + G0) (F1 + G1) F0 F1 G0 G1).length vbc)) := by
                subst hGQ
                refine ⟨by simp, ?_, ?_, ?_⟩ <;> go_cell
              refine hK.out _ _ (Below.alloc hHeld (Below.size hHeld) _) (fun hHeld2 => ?_); (clear hHeld; rename _ => hHeld; clear hK K; have hHeld : Below w.heap.size w _ := hHeld); (try simp only [Act.put, List.getElem_toArray, List.getElem_cons_succ, List.getElem_cons_zero, List.setIfInBounds_toArray, List.set_cons_zero, List.set_cons_succ])
              rw [hGQ]; clear hGQ; obtain ⟨y5, hwx⟩ : ∃ wx, y4.alloc (.cells #[.slice vaa (flT d o (F0 + L0) (F1 + L1) L0 L1 F0 F1).length vac, .slice (some ⟨GA, 0, none⟩) 1 1, .slice vba (flT d o (F0 + G0) (F1 + G1) F0 F1 G0 G1).length vbc] 30) = wx := ⟨_, rfl⟩; rw [hwx] at Hn1 Hva Hn2 HA Hvb HQ hHeld ⊢; clear hwx
              refine wpAnyH_ready (rs := [14]) (by kernel_rfl) (by simp) ?_; refine AllReadyH.cons rfl (fun K hK => ?_) AllReadyH.nil
              go_simp; (go_at_call 27; refine (concatP3_any GQ 3 _ _ _ _ _ _ (flT d o (F0 + L0) (F1 + L1) L0 L1 F0 F1) [(F0, F1)] (flT d o (F0 + G0) (F1 + G1) F0 F1 G0 G1) _ HQ.out.1 HQ.out.2.1 HQ.out.2.2.1 HQ.out.2.2.2 Hva.out HA.out Hvb.out HLN.out.1 (by simp) HLN.out.2 (by simp only [List.length_cons, List.length_nil]; omega)).mono ?_; rintro en y6 ⟨vr, rfl, ho, hb2⟩); have HR := Lib.hid (show OwnF w.heap.size y6 _ _ _ from own_up ho (Below.size hHeld)); refine hK.out _ _ (below_after hb2 hHeld) (fun hHeld2 => ?_); clear hb2 ho; (clear hHeld; rename _ => hHeld; clear hK K; have hHeld : Below w.heap.size w _ := hHeld); (try simp only [Act.put, List.getElem_toArray, List.getElem_cons_succ, List.getElem_cons_zero, List.setIfInBounds_toArray, List.set_cons_zero, List.set_cons_succ])
              (refine wpAnyH_take (i := 15) (v := ?_) rfl (by kernel_rfl) (by kernel_rfl) (by kernel_rfl) (fun _ _ _ h => h) (Or.inl ⟨rfl, ?_⟩) (by assumption) ?_; rotate_left; focus (intro W hSw; (try dsimp only at hSw); obtain ⟨i0, i1⟩ := HX.out _ hSw; go_simp; try (with_reducible rfl))); (try simp only [Act.put, List.getElem_toArray, List.getElem_cons_succ, List.getElem_cons_zero, List.setIfInBounds_toArray, List.set_cons_zero, List.set_cons_succ])
              refine wpAnyH_done (by kernel_rfl) ?_ _
              have hbF := hHeld
              clear hHeld
              go_wp2_with fail
              go_ret
              refine ⟨vr, rfl, ?_, hbF⟩
              have h := HR.out
              simp only [List.append_assoc, List.cons_append, List.nil_append] at h ⊢
              exact h
            · skip
              go_simp; (go_at_call 29; refine (HIH.out n2 _ _ _ _ _ _ _ Hn2.out HBD.out.2).mono ?_; rintro en y3 ⟨vbx, rfl, ho, hb2⟩); obtain ⟨vba, vbc, rfl, _⟩ := own_viewF ho; have Hvb := Lib.hid (show OwnF w.heap.size y3 _ _ _ from own_up ho (Below.size hHeld)); have Hn1 := Lib.hid (Hn1.out.below hb2); have Hva := Lib.hid (Hva.out.below hb2); have Hn2 := Lib.hid (Hn2.out.below hb2); refine hK.out _ _ (below_after hb2 hHeld) (fun hHeld2 => ?_); clear hb2 ho; (clear hHeld; rename _ => hHeld; clear hK K; have hHeld : Below w.heap.size w _ := hHeld); (try simp only [Act.put, List.getElem_toArray, List.getElem_cons_succ, List.getElem_cons_zero, List.setIfInBounds_toArray, List.set_cons_zero, List.set_cons_succ])
              refine wpAnyH_ready (rs := [8]) (by kernel_rfl) (by simp) ?_; refine AllReadyH.cons rfl (fun K hK => ?_) AllReadyH.nil
              go_simp; obtain ⟨GA, hGA⟩ : ∃ G, y3.heap.size = G := ⟨_, rfl⟩
              have Hn1 := Lib.hid (Hn1.out.below ((Below.refl _ _).alloc (Nat.le_refl _) (.cells #[.int .i64 F0, .int .i64 F1] 24))); have Hva := Lib.hid (Hva.out.below ((Below.refl _ _).alloc (Nat.le_refl _) (.cells #[.int .i64 F0, .int .i64 F1] 24))); have Hn2 := Lib.hid (Hn2.out.below ((Below.refl _ _).alloc (Nat.le_refl _) (.cells #[.int .i64 F0, .int .i64 F1] 24))); have Hvb := Lib.hid (Hvb.out.below ((Below.refl _ _).alloc (Nat.le_refl _) (.cells #[.int .i64 F0, .int .i64 F1] 24))); skip
              have HA : Hid (OwnF w.heap.size (y3.alloc (.cells #[.int .i64 F0, .int .i64 F1] 24)) (.slice (some ⟨GA, 0, none⟩) 1 1) 1 (flat [(F0, F1)])) := own_lit1q y3 w.heap.size GA F0 F1 hGA.symm (by rw [← hGA]; exact Below.size hHeld)
              refine hK.out _ _ (Below.alloc hHeld (Below.size hHeld) _) (fun hHeld2 => ?_); (clear hHeld; rename _ => hHeld; clear hK K; have hHeld : Below w.heap.size w _ := hHeld); (try simp only [Act.put, List.getElem_toArray, List.getElem_cons_succ, List.getElem_cons_zero, List.setIfInBounds_toArray, List.set_cons_zero, List.set_cons_succ])
              rw [hGA]; clear hGA; obtain ⟨y4, hwx⟩ : ∃ wx, y3.alloc (.cells #[.int .i64 F0, .int .i64 F1] 24) = wx := ⟨_, rfl⟩; rw [hwx] at Hn1 Hva Hn2 Hvb HA hHeld ⊢; clear hwx
              refine wpAnyH_ready (rs := [13]) (by kernel_rfl) (by simp) ?_; refine AllReadyH.cons rfl (fun K hK => ?_) AllReadyH.nil
              go_simp; obtain ⟨GQ, hGQ⟩ : ∃ G, y4.heap.size = G := ⟨_, rfl⟩
              have Hn1 := Lib.hid (Hn1.out.below ((Below.refl _ _).alloc (Nat.le_refl _) (.cells #[.slice vaa (flT d o (F0 + L0) (F1 + L1) L0 L1 F0 F1).length vac, .slice (some ⟨GA, 0, none⟩) 1 1, .slice vba (flT d o (F0 + G0) (F1 + G1) F0 F1 G0 G1).length vbc] 30))); have Hva := Lib.hid (Hva.out.below ((Below.refl _ _).alloc (Nat.le_refl _) (.cells #[.slice vaa (flT d o (F0 + L0) (F1 + L1) L0 L1 F0 F1).length vac, .slice (some ⟨GA, 0, none⟩) 1 1, .slice vba (flT d o (F0 + G0) (F1 + G1) F0 F1 G0 G1).length vbc] 30))); have Hn2 := Lib.hid (Hn2.out.below ((Below.refl _ _).alloc (Nat.le_refl _) (.cells #[.slice vaa (flT d o (F0 + L0) (F1 + L1) L0 L1 F0 F1).length vac, .slice (some ⟨GA, 0, none⟩) 1 1, .slice vba (flT d o (F0 + G0) (F1 + G1) F0 F1 G0 G1).length vbc] 30))); have Hvb := Lib.hid (Hvb.out.below ((Below.refl _ _).alloc (Nat.le_refl _) (.cells #[.slice vaa (flT d o (F0 + L0) (F1 + L1) L0 L1 F0 F1).length vac, .slice (some ⟨GA, 0, none⟩) 1 1, .slice vba (flT d o (F0 + G0) (F1 + G1) F0 F1 G0 G1).length vbc] 30))); have HA := Lib.hid (HA.out.below ((Below.refl _ _).alloc (Nat.le_refl _) (.cells #[.slice vaa (flT d o (F0 + L0) (F1 + L1) L0 L1 F0 F1).length vac, .slice (some ⟨GA, 0, none⟩) 1 1, .slice vba (flT d o (F0 + G0) (F1 + G1) F0 F1 G0 G1).length vbc] 30))); skip
              have HQ : Hid (GQ < (y4.alloc (.cells #[.slice vaa (flT d o (F0 + L0) (F1 + L1) L0 L1 F0 F1).length vac, .slice (some ⟨GA, 0, none⟩) 1 1, .slice vba (flT d o (F0 + G0) (F1 + G1) F0 F1 G0 G1).length vbc] 30)).heap.size ∧ (y4.alloc (.cells #[.slice vaa (flT d o (F0 + L0) (F1 + L1) L0 L1 F0 F1).length vac, .slice (some ⟨GA, 0, none⟩) 1 1, .slice vba (flT d o (F0 + G0) (F1 + G1) F0 F1 G0 G1).length vbc] 30)).cell? ⟨GQ, 0, none⟩ = some (.slice vaa (flT d o (F0 + L0) (F1 + L1) L0 L1 F0 F1).length vac) ∧ (y4.alloc (.cells #[.slice vaa (flT d o (F0 + L0) (F1 + L1) L0 L1 F0 F1).length vac, .slice (some ⟨GA, 0, none⟩) 1 1, .slice vba (flT d o (F0 + G0) (F1 + G1) F0 F1 G0 G1).length vbc] 30)).cell? ⟨GQ, 1, none⟩ = some (.slice (some ⟨GA, 0, none⟩) 1 1) ∧ (y4.alloc (.cells #[.slice vaa (flT d o (F0 + L0) (F1 + L1) L0 L1 F0 F1).length vac, .slice (some ⟨GA, 0, none⟩) 1 1, .slice vba (flT d o (F0 + G0) (F1 + G1) F0 F1 G0 G1).length vbc] 30)).cell? ⟨GQ, 2, none⟩ = some (.slice vba (flT d o (F0 + G0) (F1 + G1) F0 F1 G0 G1).length vbc)) := by
                subst hGQ
                refine ⟨by simp, ?_, ?_, ?_⟩ <;> go_cell
              refine hK.out _ _ (Below.alloc hHeld (Below.size hHeld) _) (fun hHeld2 => ?_); (clear hHeld; rename _ => hHeld; clear hK K; have hHeld : Below w.heap.size w _ := hHeld); (try simp only [Act.put, List.getElem_toArray, List.getElem_cons_succ, List.getElem_cons_zero, List.setIfInBounds_toArray, List.set_cons_zero, List.set_cons_succ])
              rw [hGQ]; clear hGQ; obtain ⟨y5, hwx⟩ : ∃ wx, y4.alloc (.cells #[.slice vaa (flT d o (F0 + L0) (F1 + L1) L0 L1 F0 F1).length vac, .slice (some ⟨GA, 0, none⟩) 1 1, .slice vba (flT d o (F0 + G0) (F1 + G1) F0 F1 G0 G1).length vbc] 30) = wx := ⟨_, rfl⟩; rw [hwx] at Hn1 Hva Hn2 Hvb HA HQ hHeld ⊢; clear hwx
              refine wpAnyH_ready (rs := [14]) (by kernel_rfl) (by simp) ?_; refine AllReadyH.cons rfl (fun K hK => ?_) AllReadyH.nil
              go_simp; (go_at_call 27; refine (concatP3_any GQ 3 _ _ _ _ _ _ (flT d o (F0 + L0) (F1 + L1) L0 L1 F0 F1) [(F0, F1)] (flT d o (F0 + G0) (F1 + G1) F0 F1 G0 G1) _ HQ.out.1 HQ.out.2.1 HQ.out.2.2.1 HQ.out.2.2.2 Hva.out HA.out Hvb.out HLN.out.1 (by simp) HLN.out.2 (by simp only [List.length_cons, List.length_nil]; omega)).mono ?_; rintro en y6 ⟨vr, rfl, ho, hb2⟩); have HR := Lib.hid (show OwnF w.heap.size y6 _ _ _ from own_up ho (Below.size hHeld)); refine hK.out _ _ (below_after hb2 hHeld) (fun hHeld2 => ?_); clear hb2 ho; (clear hHeld; rename _ => hHeld; clear hK K; have hHeld : Below w.heap.size w _ := hHeld); (try simp only [Act.put, List.getElem_toArray, List.getElem_cons_succ, List.getElem_cons_zero, List.setIfInBounds_toArray, List.set_cons_zero, List.set_cons_succ])
              (refine wpAnyH_take (i := 15) (v := ?_) rfl (by kernel_rfl) (by kernel_rfl) (by kernel_rfl) (fun _ _ _ h => h) (Or.inl ⟨rfl, ?_⟩) (by assumption) ?_; rotate_left; focus (intro W hSw; (try dsimp only at hSw); obtain ⟨i0, i1⟩ := HX.out _ hSw; go_simp; try (with_reducible rfl))); (try simp only [Act.put, List.getElem_toArray, List.getElem_cons_succ, List.getElem_cons_zero, List.setIfInBounds_toArray, List.set_cons_zero, List.set_cons_succ])
              refine wpAnyH_done (by kernel_rfl) ?_ _
              have hbF := hHeld
              clear hHeld
              go_wp2_with fail
              go_ret
              refine ⟨vr, rfl, ?_, hbF⟩
              have h := HR.out
              simp only [List.append_assoc, List.cons_append, List.nil_append] at h ⊢
              exact h
        · skip
          go_simp; obtain ⟨GA, hGA⟩ : ∃ G, y0.heap.size = G := ⟨_, rfl⟩
          have Hn1 := Lib.hid (Hn1.out.below ((Below.refl _ _).alloc (Nat.le_refl _) (.cells #[.int .i64 F0, .int .i64 F1] 24))); skip
          have HA : Hid (OwnF w.heap.size (y0.alloc (.cells #[.int .i64 F0, .int .i64 F1] 24)) (.slice (some ⟨GA, 0, none⟩) 1 1) 1 (flat [(F0, F1)])) := own_lit1q y0 w.heap.size GA F0 F1 hGA.symm (by rw [← hGA]; exact Below.size hHeld)
          refine hK.out _ _ (Below.alloc hHeld (Below.size hHeld) _) (fun hHeld2 => ?_); (clear hHeld; rename _ => hHeld; clear hK K; have hHeld : Below w.heap.size w _ := hHeld); (try simp only [Act.put, List.getElem_toArray, List.getElem_cons_succ, List.getElem_cons_zero, List.setIfInBounds_toArray, List.set_cons_zero, List.set_cons_succ])
          rw [hGA]; clear hGA; obtain ⟨y1, hwx⟩ : ∃ wx, y0.alloc (.cells #[.int .i64 F0, .int .i64 F1] 24) = wx := ⟨_, rfl⟩; rw [hwx] at Hn1 HA hHeld ⊢; clear hwx
          refine wpAnyH_ready (rs := [3]) (by kernel_rfl) (by simp) ?_; refine AllReadyH.cons rfl (fun K hK => ?_) AllReadyH.nil
          go_simp; (go_at_call 29; refine (HIH.out n1 _ _ _ _ _ _ _ Hn1.out HBD.out.1).mono ?_; rintro en y2 ⟨vax, rfl, ho, hb2⟩); obtain ⟨vaa, vac, rfl, _⟩ := own_viewF ho; have Hva := Lib.hid (show OwnF w.heap.size y2 _ _ _ from own_up ho (Below.size hHeld)); have Hn1 := Lib.hid (Hn1.out.below hb2); have HA := Lib.hid (HA.out.below hb2); refine hK.out _ _ (below_after hb2 hHeld) (fun hHeld2 => ?_); clear hb2 ho; (clear hHeld; rename _ => hHeld; clear hK K; have hHeld : Below w.heap.size w _ := hHeld); (try simp only [Act.put, List.getElem_toArray, List.getElem_cons_succ, List.getElem_cons_zero, List.setIfInBounds_toArray, List.set_cons_zero, List.set_cons_succ])
          refine wpAnyH_ready (rs := [10]) (by kernel_rfl) (by simp) ?_; refine AllReadyH.cons rfl (fun K hK => ?_) AllReadyH.nil
          go_simp; (go_at_call 36; refine (right_any n F0 F1 L0 L1 G0 G1 _ (HNT.out.below hHeld) HW.out.1.1 HW.out.1.2 HW.out.2.2.1 HW.out.2.2.2).mono ?_; rintro en y3 ⟨n2, rfl, ht, hl, hb2⟩); have Hn2 := Lib.hid ht; have Hn1 := Lib.hid (Hn1.out.below hb2); have HA := Lib.hid (HA.out.below hb2); have Hva := Lib.hid (Hva.out.below hb2); refine hK.out _ _ (below_after hb2 hHeld) (fun hHeld2 => ?_); clear hb2 ht hl; (clear hHeld; rename _ => hHeld; clear hK K; have hHeld : Below w.heap.size w _ := hHeld); (try simp only [Act.put, List.getElem_toArray, List.getElem_cons_succ, List.getElem_cons_zero, List.setIfInBounds_toArray, List.set_cons_zero, List.set_cons_succ])
          refine wpAnyH_ready (rs := [12]) (by kernel_rfl) (by simp) ?_; refine AllReadyH.cons rfl (fun K hK => ?_) AllReadyH.nil
          go_simp; (go_at_call 29; refine (HIH.out n2 _ _ _ _ _ _ _ Hn2.out HBD.out.2).mono ?_; rintro en y4 ⟨vbx, rfl, ho, hb2⟩); obtain ⟨vba, vbc, rfl, _⟩ := own_viewF ho; have Hvb := Lib.hid (show OwnF w.heap.size y4 _ _ _ from own_up ho (Below.size hHeld)); have Hn1 := Lib.hid (Hn1.out.below hb2); have HA := Lib.hid (HA.out.below hb2); have Hva := Lib.hid (Hva.out.below hb2); have Hn2 := Lib.hid (Hn2.out.below hb2); refine hK.out _ _ (below_after hb2 hHeld) (fun hHeld2 => ?_); clear hb2 ho; (clear hHeld; rename _ => hHeld; clear hK K; have hHeld : Below w.heap.size w _ := hHeld); (try simp only [Act.put, List.getElem_toArray, List.getElem_cons_succ, List.getElem_cons_zero, List.setIfInBounds_toArray, List.set_cons_zero, List.set_cons_succ])
          refine wpAnyH_ready (rs := [13]) (by kernel_rfl) (by simp) ?_; refine AllReadyH.cons rfl (fun K hK => ?_) AllReadyH.nil
          go_simp; obtain ⟨GQ, hGQ⟩ : ∃ G, y4.heap.size = G := ⟨_, rfl⟩
          have Hn1 := Lib.hid (Hn1.out.below ((Below.refl _ _).alloc (Nat.le_refl _) (.cells #[.slice vaa (flT d o (F0 + L0) (F1 + L1) L0 L1 F0 F1).length vac, .slice (some ⟨GA, 0, none⟩) 1 1, .slice vba (flT d o (F0 + G0) (F1 + G1) F0 F1 G0 G1).length vbc] 30))); have HA := Lib.hid (HA.out.below ((Below.refl _ _).alloc (Nat.le_refl _) (.cells #[.slice vaa (flT d o (F0 + L0) (F1 + L1) L0 L1 F0 F1).length vac, .slice (some ⟨GA, 0, none⟩) 1 1, .slice vba (flT d o (F0 + G0) (F1 + G1) F0 F1 G0 G1).length vbc] 30))); have Hva := Lib.hid (Hva.out.below ((Below.refl _ _).alloc (Nat.le_refl _) (.cells #[.slice vaa (flT d o (F0 + L0) (F1 + L1) L0 L1 F0 F1).length vac, .slice (some ⟨GA, 0, none⟩) 1 1, .slice vba (flT d o (F0 + G0) (F1 + G1) F0 F1 G0 G1).length vbc] 30))); have Hn2 := Lib.hid (Hn2.out.below ((Below.refl _ _).alloc (Nat.le_refl _) (.cells #[.slice vaa (flT d o (F0 + L0) (F1 + L1) L0 L1 F0 F1).length vac, .slice (some ⟨GA, 0, none⟩) 1 1, .slice vba (flT d o (F0 + G0) (F1 + G1) F0 F1 G0 G1).length vbc] 30))); have Hvb := Lib.hid (Hvb.out.below ((Below.refl _ _).alloc (Nat.le_refl _) (.cells #[.slice vaa (flT d o (F0 + L0) (F1 + L1) L0 L1 F0 F1).length vac, .slice (some ⟨GA, 0, none⟩) 1 1, .slice vba (flT d o (F0 + G0) (F1 + G1) F0 F1 G0 G1).length vbc] 30))); skip
          have HQ : Hid (GQ < (y4.alloc (.cells #[.slice vaa (flT d o (F0 + L0) (F1 + L1) L0 L1 F0 F1).length vac, .slice (some ⟨GA, 0, none⟩) 1 1, .slice vba (flT d o (F0 + G0) (F1 + G1) F0 F1 G0 G1).length vbc] 30)).heap.size ∧ (y4.alloc (.cells #[.slice vaa (flT d o (F0 + L0) (F1 + L1) L0 L1 F0 F1).length vac, .slice (some ⟨GA, 0, none⟩) 1 1, .slice vba (flT d o (F0 + G0) (F1 + G1) F0 F1 G0 G1).length vbc] 30)).cell? ⟨GQ, 0, none⟩ = some (.slice vaa (flT d o (F0 + L0) (F1 + L1) L0 L1 F0 F1).length vac) ∧ (y4.alloc (.cells #[.slice vaa (flT d o (F0 + L0) (F1 + L1) L0 L1 F0 F1).length vac, .slice (some ⟨GA, 0, none⟩) 1 1, .slice vba (flT d o (F0 + G0) (F1 + G1) F0 F1 G0 G1).length vbc] 30)).cell? ⟨GQ, 1, none⟩ = some (.slice (some ⟨GA, 0, none⟩) 1 1) ∧ (y4.alloc (.cells #[.slice vaa (flT d o (F0 + L0) (F1 + L1) L0 L1 F0 F1).length vac, .slice (some ⟨GA, 0, none⟩) 1 1, .slice vba (flT d o (F0 + G0) (F1 + G1) F0 F1 G0 G1).length vbc] 30)).cell? ⟨GQ, 2, none⟩ = some (.slice vba (flT d o (F0 + G0) (F1 + G1) F0 F1 G0 G1).length vbc)) := by
            subst hGQ
            refine ⟨by simp, ?_, ?_, ?_⟩ <;> go_cell
          refine hK.out _ _ (Below.alloc hHeld (Below.size hHeld) _) (fun hHeld2 => ?_); (clear hHeld; rename _ => hHeld; clear hK K; have hHeld : Below w.heap.size w _ := hHeld); (try simp only [Act.put, List.getElem_toArray, List.getElem_cons_succ, List.getElem_cons_zero, List.setIfInBounds_toArray, List.set_cons_zero, List.set_cons_succ])
          rw [hGQ]; clear hGQ; obtain ⟨y5, hwx⟩ : ∃ wx, y4.alloc (.cells #[.slice vaa (flT d o (F0 + L0) (F1 + L1) L0 L1 F0 F1).length vac, .slice (some ⟨GA, 0, none⟩) 1 1, .slice vba (flT d o (F0 + G0) (F1 + G1) F0 F1 G0 G1).length vbc] 30) = wx := ⟨_, rfl⟩; rw [hwx] at Hn1 HA Hva Hn2 Hvb HQ hHeld ⊢; clear hwx
          refine wpAnyH_ready (rs := [14]) (by kernel_rfl) (by simp) ?_; refine AllReadyH.cons rfl (fun K hK => ?_) AllReadyH.nil
          go_simp; (go_at_call 27; refine (concatP3_any GQ 3 _ _ _ _ _ _ (flT d o (F0 + L0) (F1 + L1) L0 L1 F0 F1) [(F0, F1)] (flT d o (F0 + G0) (F1 + G1) F0 F1 G0 G1) _ HQ.out.1 HQ.out.2.1 HQ.out.2.2.1 HQ.out.2.2.2 Hva.out HA.out Hvb.out HLN.out.1 (by simp) HLN.out.2 (by simp only [List.length_cons, List.length_nil]; omega)).mono ?_; rintro en y6 ⟨vr, rfl, ho, hb2⟩); have HR := Lib.hid (show OwnF w.heap.size y6 _ _ _ from own_up ho (Below.size hHeld)); refine hK.out _ _ (below_after hb2 hHeld) (fun hHeld2 => ?_); clear hb2 ho; (clear hHeld; rename _ => hHeld; clear hK K; have hHeld : Below w.heap.size w _ := hHeld); (try simp only [Act.put, List.getElem_toArray, List.getElem_cons_succ, List.getElem_cons_zero, List.setIfInBounds_toArray, List.set_cons_zero, List.set_cons_succ])
          (refine wpAnyH_take (i := 15) (v := ?_) rfl (by kernel_rfl) (by kernel_rfl) (by kernel_rfl) (fun _ _ _ h => h) (Or.inl ⟨rfl, ?_⟩) (by assumption) ?_; rotate_left; focus (intro W hSw; (try dsimp only at hSw); obtain ⟨i0, i1⟩ := HX.out _ hSw; go_simp; try (with_reducible rfl))); (try simp only [Act.put, List.getElem_toArray, List.getElem_cons_succ, List.getElem_cons_zero, List.setIfInBounds_toArray, List.set_cons_zero, List.set_cons_succ])
          refine wpAnyH_done (by kernel_rfl) ?_ _
          have hbF := hHeld
          clear hHeld
          go_wp2_with fail
          go_ret
          refine ⟨vr, rfl, ?_, hbF⟩
          have h := HR.out
          simp only [List.append_assoc, List.cons_append, List.nil_append] at h ⊢
          exact h
      · skip
        go_simp; obtain ⟨GA, hGA⟩ : ∃ G, wA.heap.size = G := ⟨_, rfl⟩
        skip
        have HA : Hid (OwnF w.heap.size (wA.alloc (.cells #[.int .i64 F0, .int .i64 F1] 24)) (.slice (some ⟨GA, 0, none⟩) 1 1) 1 (flat [(F0, F1)])) := own_lit1q wA w.heap.size GA F0 F1 hGA.symm (by rw [← hGA]; exact Below.size hHeld)
        refine hK.out _ _ (Below.alloc hHeld (Below.size hHeld) _) (fun hHeld2 => ?_); (clear hHeld; rename _ => hHeld; clear hK K; have hHeld : Below w.heap.size w _ := hHeld); (try simp only [Act.put, List.getElem_toArray, List.getElem_cons_succ, List.getElem_cons_zero, List.setIfInBounds_toArray, List.set_cons_zero, List.set_cons_succ])
        rw [hGA]; clear hGA; obtain ⟨y0, hwx⟩ : ∃ wx, wA.alloc (.cells #[.int .i64 F0, .int .i64 F1] 24) = wx := ⟨_, rfl⟩; rw [hwx] at HA hHeld ⊢; clear hwx
        refine wpAnyH_ready (rs := [1]) (by kernel_rfl) (by simp) ?_; refine AllReadyH.cons rfl (fun K hK => ?_) AllReadyH.nil
        go_simp; (go_at_call 28; refine (left_any n F0 F1 L0 L1 G0 G1 _ (HNT.out.below hHeld) HW.out.1.1 HW.out.1.2 HW.out.2.1.1 HW.out.2.1.2).mono ?_; rintro en y1 ⟨n1, rfl, ht, hl, hb2⟩); have Hn1 := Lib.hid ht; have HA := Lib.hid (HA.out.below hb2); refine hK.out _ _ (below_after hb2 hHeld) (fun hHeld2 => ?_); clear hb2 ht hl; (clear hHeld; rename _ => hHeld; clear hK K; have hHeld : Below w.heap.size w _ := hHeld); (try simp only [Act.put, List.getElem_toArray, List.getElem_cons_succ, List.getElem_cons_zero, List.setIfInBounds_toArray, List.set_cons_zero, List.set_cons_succ])
        refine wpAnyH_ready (rs := [3]) (by kernel_rfl) (by simp) ?_; refine AllReadyH.cons rfl (fun K hK => ?_) AllReadyH.nil
        go_simp; (go_at_call 29; refine (HIH.out n1 _ _ _ _ _ _ _ Hn1.out HBD.out.1).mono ?_; rintro en y2 ⟨vax, rfl, ho, hb2⟩); obtain ⟨vaa, vac, rfl, _⟩ := own_viewF ho; have Hva := Lib.hid (show OwnF w.heap.size y2 _ _ _ from own_up ho (Below.size hHeld)); have HA := Lib.hid (HA.out.below hb2); have Hn1 := Lib.hid (Hn1.out.below hb2); refine hK.out _ _ (below_after hb2 hHeld) (fun hHeld2 => ?_); clear hb2 ho; (clear hHeld; rename _ => hHeld; clear hK K; have hHeld : Below w.heap.size w _ := hHeld); (try simp only [Act.put, List.getElem_toArray, List.getElem_cons_succ, List.getElem_cons_zero, List.setIfInBounds_toArray, List.set_cons_zero, List.set_cons_succ])
        refine wpAnyH_ready (rs := [10]) (by kernel_rfl) (by simp) ?_; refine AllReadyH.cons rfl (fun K hK => ?_) AllReadyH.nil
        go_simp; (go_at_call 36; refine (right_any n F0 F1 L0 L1 G0 G1 _ (HNT.out.below hHeld) HW.out.1.1 HW.out.1.2 HW.out.2.2.1 HW.out.2.2.2).mono ?_; rintro en y3 ⟨n2, rfl, ht, hl, hb2⟩); have Hn2 := Lib.hid ht; have HA := Lib.hid (HA.out.below hb2); have Hn1 := Lib.hid (Hn1.out.below hb2); have Hva := Lib.hid (Hva.out.below hb2); refine hK.out _ _ (below_after hb2 hHeld) (fun hHeld2 => ?_); clear hb2 ht hl; (clear hHeld; rename _ => hHeld; clear hK K; have hHeld : Below w.heap.size w _ := hHeld); (try simp only [Act.put, List.getElem_toArray, List.getElem_cons_succ, List.getElem_cons_zero, List.setIfInBounds_toArray, List.set_cons_zero, List.set_cons_succ])
        refine wpAnyH_ready (rs := [12]) (by kernel_rfl) (by simp) ?_; refine AllReadyH.cons rfl (fun K hK => ?_) AllReadyH.nil
        go_simp; (go_at_call 29; refine (HIH.out n2 _ _ _ _ _ _ _ Hn2.out HBD.out.2).mono ?_; rintro en y4 ⟨vbx, rfl, ho, hb2⟩); obtain ⟨vba, vbc, rfl, _⟩ := own_viewF ho; have Hvb := Lib.hid (show OwnF w.heap.size y4 _ _ _ from own_up ho (Below.size hHeld)); have HA := Lib.hid (HA.out.below hb2); have Hn1 := Lib.hid (Hn1.out.below hb2); have Hva := Lib.hid (Hva.out.below hb2); have Hn2 := Lib.hid (Hn2.out.below hb2); refine hK.out _ _ (below_after hb2 hHeld) (fun hHeld2 => ?_); clear hb2 ho; (clear hHeld; rename _ => hHeld; clear hK K; have hHeld : Below w.heap.size w _ := hHeld); (try simp only [Act.put, List.getElem_toArray, List.getElem_cons_succ, List.getElem_cons_zero, List.setIfInBounds_toArray, List.set_cons_zero, List.set_cons_succ])
        refine wpAnyH_ready (rs := [13]) (by kernel_rfl) (by simp) ?_; refine AllReadyH.cons rfl (fun K hK => ?_) AllReadyH.nil
        go_simp; obtain ⟨GQ, hGQ⟩ : ∃ G, y4.heap.size = G := ⟨_, rfl⟩
        have HA := Lib.hid (HA.out.below ((Below.refl _ _).alloc (Nat.le_refl _) (.cells #[.slice vaa (flT d o (F0 + L0) (F1 + L1) L0 L1 F0 F1).length vac, .slice (some ⟨GA, 0, none⟩) 1 1, .slice vba (flT d o (F0 + G0) (F1 + G1) F0 F1 G0 G1).length vbc] 30))); have Hn1 := Lib.hid (Hn1.out.below ((Below.refl _ _).alloc (Nat.le_refl _) (.cells #[.slice vaa (flT d o (F0 + L0) (F1 + L1) L0 L1 F0 F1).length vac, .slice (some ⟨GA, 0, none⟩) 1 1, .slice vba (flT d o (F0 + G0) (F1 + G1) F0 F1 G0 G1).length vbc] 30))); have Hva := Lib.hid (Hva.out.below ((Below.refl _ _).alloc (Nat.le_refl _) (.cells #[.slice vaa (flT d o (F0 + L0) (F1 + L1) L0 L1 F0 F1).length vac, .slice (some ⟨GA, 0, none⟩) 1 1, .slice vba (flT d o (F0 + G0) (F1 + G1) F0 F1 G0 G1).length vbc] 30))); have Hn2 := Lib.hid (Hn2.out.below ((Below.refl _ _).alloc (Nat.le_refl _) (.cells #[.slice vaa (flT d o (F0 + L0) (F1 + L1) L0 L1 F0 F1).length vac, .slice (some ⟨GA, 0, none⟩) 1 1, .slice vba (flT d o (F0 + G0) (F1 + G1) F0 F1 G0 G1).length vbc] 30))); have Hvb := Lib.hid (Hvb.out.below ((Below.refl _ _).alloc (Nat.le_refl _) (.cells #[.slice vaa (flT d o (F0 + L0) (F1 + L1) L0 L1 F0 F1).length vac, .slice (some ⟨GA, 0, none⟩) 1 1, .slice vba (flT d o (F0 + G0) (F1 + G1) F0 F1 G0 G1).length vbc] 30))); skip
        have HQ : Hid (GQ < (y4.alloc (.cells #[.slice vaa (flT d o (F0 + L0) (F1 + L1) L0 L1 F0 F1).length vac, .slice (some ⟨GA, 0, none⟩) 1 1, .slice vba (flT d o (F0 + G0) (F1 + G1) F0 F1 G0 G1).length vbc] 30)).heap.size ∧ (y4.alloc (.cells #[.slice vaa (flT d o (F0 + L0) (F1 + L1) L0 L1 F0 F1).length vac, .slice (some ⟨GA, 0, none⟩) 1 1, .slice vba (flT d o (F0 + G0) (F1 + G1) F0 F1 G0 G1).length vbc] 30)).cell? ⟨GQ, 0, none⟩ = some (.slice vaa (flT d o (F0 + L0) (F1 + L1) L0 L1 F0 F1).length vac) ∧ (y4.alloc (.cells #[.slice vaa (flT d o (F0 + L0) (F1 + L1) L0 L1 F0 F1).length vac, .slice (some ⟨GA, 0, none⟩) 1 1, .slice vba (flT d o (F0 + G0) (F1 + G1) F0 F1 G0 G1).length vbc] 30)).cell? ⟨GQ, 1, none⟩ = some (.slice (some ⟨GA, 0, none⟩) 1 1) ∧ (y4.alloc (.cells #[.slice vaa (flT d o (F0 + L0) (F1 + L1) L0 L1 F0 F1).length vac, .slice (some ⟨GA, 0, none⟩) 1 1, .slice vba (flT d o (F0 + G0) (F1 + G1) F0 F1 G0 G1).length vbc] 30)).cell? ⟨GQ, 2, none⟩ = some (.slice vba (flT d o (F0 + G0) (F1 + G1) F0 F1 G0 G1).length vbc)) := by
          subst hGQ
          refine ⟨by simp, ?_, ?_, ?_⟩ <;> go_cell
        refine hK.out _ _ (Below.alloc hHeld (Below.size hHeld) _) (fun hHeld2 => ?_); (clear hHeld; rename _ => hHeld; clear hK K; have hHeld : Below w.heap.size w _ := hHeld); (try simp only [Act.put, List.getElem_toArray, List.getElem_cons_succ, List.getElem_cons_zero, List.setIfInBounds_toArray, List.set_cons_zero, List.set_cons_succ])
        rw [hGQ]; clear hGQ; obtain ⟨y5, hwx⟩ : ∃ wx, y4.alloc (.cells #[.slice vaa (flT d o (F0 + L0) (F1 + L1) L0 L1 F0 F1).length vac, .slice (some ⟨GA, 0, none⟩) 1 1, .slice vba (flT d o (F0 + G0) (F1 + G1) F0 F1 G0 G1).length vbc] 30) = wx := ⟨_, rfl⟩; rw [hwx] at HA Hn1 Hva Hn2 Hvb HQ hHeld ⊢; clear hwx
        refine wpAnyH_ready (rs := [14]) (by kernel_rfl) (by simp) ?_; refine AllReadyH.cons rfl (fun K hK => ?_) AllReadyH.nil
        go_simp; (go_at_call 27; refine (concatP3_any GQ 3 _ _ _ _ _ _ (flT d o (F0 + L0) (F1 + L1) L0 L1 F0 F1) [(F0, F1)] (flT d o (F0 + G0) (F1 + G1) F0 F1 G0 G1) _ HQ.out.1 HQ.out.2.1 HQ.out.2.2.1 HQ.out.2.2.2 Hva.out HA.out Hvb.out HLN.out.1 (by simp) HLN.out.2 (by simp only [List.length_cons, List.length_nil]; omega)).mono ?_; rintro en y6 ⟨vr, rfl, ho, hb2⟩); have HR := Lib.hid (show OwnF w.heap.size y6 _ _ _ from own_up ho (Below.size hHeld)); refine hK.out _ _ (below_after hb2 hHeld) (fun hHeld2 => ?_); clear hb2 ho; (clear hHeld; rename _ => hHeld; clear hK K; have hHeld : Below w.heap.size w _ := hHeld); (try simp only [Act.put, List.getElem_toArray, List.getElem_cons_succ, List.getElem_cons_zero, List.setIfInBounds_toArray, List.set_cons_zero, List.set_cons_succ])
        (refine wpAnyH_take (i := 15) (v := ?_) rfl (by kernel_rfl) (by kernel_rfl) (by kernel_rfl) (fun _ _ _ h => h) (Or.inl ⟨rfl, ?_⟩) (by assumption) ?_; rotate_left; focus (intro W hSw; (try dsimp only at hSw); obtain ⟨i0, i1⟩ := HX.out _ hSw; go_simp; try (with_reducible rfl))); (try simp only [Act.put, List.getElem_toArray, List.getElem_cons_succ, List.getElem_cons_zero, List.setIfInBounds_toArray, List.set_cons_zero, List.set_cons_succ])
        refine wpAnyH_done (by kernel_rfl) ?_ _
        have hbF := hHeld
        clear hHeld
        go_wp2_with fail
        go_ret
        refine ⟨vr, rfl, ?_, hbF⟩
        have h := HR.out
        simp only [List.append_assoc, List.cons_append, List.nil_append] at h ⊢
        exact h
end Go.Proofs.Ytcaleapedomfmaa
