/-
  Contracts of chapter 3's SailPoints in the model (own work).
-/
import Derived.Maps.AppendAt
import Derived.Deep.DeepCutAuto
import Derived.Deep.RegionWith
import Derived.Test.YtjiaokcbhpmodaaSail
import Derived.Test.YtjiaokcbhpmodaaAng
import Derived.Test.YtjiaokcbhpmodaaOwn
import Derived.Test.YtjiaokcbhpmodaaSlP
namespace Go.Proofs.Ytjiaokcbhpmodaa
open Go.ChangeShapes Go.WideShapes Go.ChangeAt Go.RowKit
set_option linter.unusedVariables false
set_option linter.unusedSimpArgs false
set_option maxRecDepth 100000

/-- The first step's number is the mate's. -/
theorem first_floor {a b : Int × Int} : -((detP (mateI a.1 a.2) b) / detP a b) = cS b (preS a) a := by
  have e : detP (preS a) b = -detP (mateI a.1 a.2) b := by unfold detP preS; dsimp only; grind
  unfold cS upI
  rw [e, Int.neg_neg]
theorem first_next {a b : Int × Int} : nxS b (preS a) a = ((mateI a.1 a.2).1 + cS b (preS a) a * a.1, (mateI a.1 a.2).2 + cS b (preS a) a * a.2) := by
  unfold nxS preS
  refine Prod.ext ?_ ?_
  · dsimp only; omega
  · dsimp only; omega
theorem flat_at (ps : List (Int × Int)) (u v : Int × Int) (m : Nat) (h : ps.length = m) : (flat (ps ++ [u, v])).getD (m * 2) 0 = u.1 ∧ (flat (ps ++ [u, v])).getD (m * 2 + 1) 0 = u.2 ∧ (flat (ps ++ [u, v])).getD ((m + 1) * 2) 0 = v.1 ∧ (flat (ps ++ [u, v])).getD ((m + 1) * 2 + 1) 0 = v.2 := by
  have hl : (flat ps).length = m * 2 := by rw [flat_len, h]
  have e : flat (ps ++ [u, v]) = flat ps ++ [u.1, u.2, v.1, v.2] := by rw [flat_append]; rfl
  rw [e]
  refine ⟨?_, ?_, ?_, ?_⟩
  · rw [List.getD_eq_getElem?_getD, List.getElem?_append_right (by omega), hl, Nat.sub_self]; rfl
  · rw [List.getD_eq_getElem?_getD, List.getElem?_append_right (by omega), hl, show m * 2 + 1 - m * 2 = 1 by omega]; rfl
  · rw [List.getD_eq_getElem?_getD, List.getElem?_append_right (by omega), hl, show (m + 1) * 2 - m * 2 = 2 by omega]; rfl
  · rw [List.getD_eq_getElem?_getD, List.getElem?_append_right (by omega), hl, show (m + 1) * 2 + 1 - m * 2 = 3 by omega]; rfl
theorem own_2 (w : World) (x y z u : Int) : OwnF w.heap.size (w.alloc (.cells #[.int .i64 x, .int .i64 y, .int .i64 z, .int .i64 u] 24)) (.slice (some ⟨w.heap.size, 0, none⟩) 2 2) 2 [x, y, z, u] :=
  ⟨rfl, .inr ⟨w.heap.size, 2, _, rfl, Nat.le_refl _, Go.heap_alloc_new w _, Nat.le_refl _, by unfold maxLen; omega, rfl, rfl⟩⟩
theorem own_1 (w : World) (x : Int) : OwnI w.heap.size (w.alloc (.cells #[.int .i64 x] 2)) (.slice (some ⟨w.heap.size, 0, none⟩) 1 1) [x] :=
  ⟨rfl, .inr ⟨w.heap.size, 1, _, rfl, Nat.le_refl _, Go.heap_alloc_new w _, Nat.le_refl _, by unfold maxLen; omega, rfl, rfl⟩⟩
/-- Two lists lie apart. -/
def Apart (p q : Value) : Prop := ∀ k, p.ownBlock = some k → q.ownBlock ≠ some k
def RetPNB (w : World) (ps : List (Int × Int)) (ns : List Int) (ok : Bool) (e : Ending) (w' : World) : Prop :=
  ∃ v1 v2, e = .returned (.tuple #[v1, v2, .bool ok]) ∧ OwnF w.heap.size w' v1 ps.length (flat ps) ∧ OwnI w.heap.size w' v2 ns ∧ Below w.heap.size w w'
set_option maxHeartbeats 40000000 in
theorem l03Sail_an (a0 a1 b0 b1 : Int) (w : World) (ha : isAn (a0, a1) (b0, b1) = true) : Calls Try.prog 62 #[.agg #[.int .i64 a0, .int .i64 a1], .agg #[.int .i64 b0, .int .i64 b1]] w
    (RetPNB w (if (slI (a0, a1) (b0, b1)).length ≤ 2000 then slI (a0, a1) (b0, b1) else []) (if (slI (a0, a1) (b0, b1)).length ≤ 2000 then cnI (a0, a1) (b0, b1) else []) (decide ((slI (a0, a1) (b0, b1)).length ≤ 2000))) := by
  obtain ⟨i0, hi, hz0, hz1, hz2⟩ := info_parts info_int
  obtain ⟨j0, hj, jz0, jz1, jz2⟩ := info_parts info_pt
  obtain ⟨p1, p2, g1, g2, d1, d2⟩ := isAn_parts ha
  have HAN := Lib.hid ha
  have HP1 := Lib.hid p1
  have HP2 := Lib.hid p2
  have HG1 := Lib.hid g1
  obtain ⟨hn1, _, _, hc1, hc2⟩ := sl_next ha (sl_first ha) d1
  have hm := (mateI_ok (a := a0) (b := a1) p1 g1).2
  have hmd := det_tnC (a := (mateI a0 a1).1) (b := (mateI a0 a1).2) (c := b0) (d := b1) hm p2
  have hff := first_floor (a := (a0, a1)) (b := (b0, b1))
  have hfn := first_next (a := (a0, a1)) (b := (b0, b1))
  dsimp only at hff hfn
  obtain ⟨⟨m0, m1⟩, hme⟩ : ∃ m, mateI a0 a1 = m := ⟨_, rfl⟩
  rw [hme] at hff hfn hm hmd
  have hLB : ∀ w, Calls Try.prog 70 #[.agg #[.int .i64 a0, .int .i64 a1]] w fun e w' => e = .returned (.agg #[.int .i64 m0, .int .i64 m1]) ∧ Below w.heap.size w w' := by
    intro w
    have := l01Base_mate a0 a1 w p1 g1
    rw [hme] at this
    exact this
  have HLB := Lib.hid hLB
  dsimp only at hmd
  obtain ⟨K0, hK⟩ : ∃ K0, cS (b0, b1) (preS (a0, a1)) (a0, a1) = K0 := ⟨_, rfl⟩
  rw [hK] at hff hfn hc1 hc2
  have HFF := Lib.hid hff
  have HFN := Lib.hid hfn
  have HN1 := Lib.hid hn1
  have HSM : Hid (Sm (m0, m1) ∧ Sm (a0, a1)) := ⟨isPt_sm hm, isPt_sm p1⟩
  have HBM : Hid (Bn m0 ∧ Bn m1) := ⟨isPt_bn1 hm, isPt_bn2 hm⟩
  have hfr := floor_range (p := detP (m0, m1) (b0, b1)) d1 (by omega) (by omega)
  obtain ⟨fr1, fr2⟩ := hfr
  obtain ⟨R, hR⟩ : ∃ R, RetPNB w (if (slI (a0, a1) (b0, b1)).length ≤ 2000 then slI (a0, a1) (b0, b1) else []) (if (slI (a0, a1) (b0, b1)).length ≤ 2000 then cnI (a0, a1) (b0, b1) else []) (decide ((slI (a0, a1) (b0, b1)).length ≤ 2000)) = R := ⟨_, rfl⟩
  rw [hR]
  have HR := Lib.hid hR
  clear ha p1 p2 g1 g2 hff hfn hK hn1 hm hme hR hLB
  have hs20 : w.heap.size < w.heap.size + 1 + 1 := (by omega); have hs30 : w.heap.size < w.heap.size + 1 + 1 + 1 := (by omega); have hs31 : w.heap.size + 1 < w.heap.size + 1 + 1 + 1 := (by omega)
  go_enter Try.func62, Try.ntmps62
  go_upto_region 3 with (first | (go_at_call 59; refine (l01Det_any _ _ _ _ _ (isPt_bn1 HP1.out) (isPt_bn2 HP1.out) (isPt_bn1 HP2.out) (isPt_bn2 HP2.out)).mono ?_; rintro e wn ⟨rfl, hb⟩; first | (have h2 := after_call2 hb hcl hfr hlt (by ((repeat' (first | (with_reducible exact Below.refl _ _) | (with_reducible refine Below.alloc ?_ ?_ _) | (with_reducible refine Below.setCell ?_ ?_ _) | (with_reducible refine Below.drew ?_) | (with_reducible refine below_drewN ?_ _) | (with_reducible assumption) | (with_reducible refine below_after (by with_reducible assumption) ?_) | go_size)); done)); obtain ⟨hclx, hfrx, hltx, hsz⟩ := after_call hb; (try simp only [World.size_alloc, World.size_setCell, World.size_drew] at hclx hfrx hltx hsz); (try (have hszl := Nat.lt_of_succ_le hsz)); obtain ⟨hcl, hfr, hlt⟩ := h2) | (obtain ⟨hcl, hfr, hlt, hsz⟩ := after_call hb; (try simp only [World.size_alloc, World.size_setCell, World.size_drew] at hcl hfr hlt hsz))) | (go_at_call 70; refine (HLB.out _).mono ?_; rintro e wn ⟨rfl, hb⟩; first | (have h2 := after_call2 hb hcl hfr hlt (by ((repeat' (first | (with_reducible exact Below.refl _ _) | (with_reducible refine Below.alloc ?_ ?_ _) | (with_reducible refine Below.setCell ?_ ?_ _) | (with_reducible refine Below.drew ?_) | (with_reducible refine below_drewN ?_ _) | (with_reducible assumption) | (with_reducible refine below_after (by with_reducible assumption) ?_) | go_size)); done)); obtain ⟨hclx, hfrx, hltx, hsz⟩ := after_call hb; (try simp only [World.size_alloc, World.size_setCell, World.size_drew] at hclx hfrx hltx hsz); (try (have hszl := Nat.lt_of_succ_le hsz)); obtain ⟨hcl, hfr, hlt⟩ := h2) | (obtain ⟨hcl, hfr, hlt, hsz⟩ := after_call hb; (try simp only [World.size_alloc, World.size_setCell, World.size_drew] at hcl hfr hlt hsz))))
  obtain ⟨wM, hwM⟩ : ∃ wM, wn.alloc (.cells #[.int .i64 m0, .int .i64 m1] 24) = wM := ⟨_, rfl⟩
  have HKM : Hid (∀ W', Below wM.heap.size wM W' → W'.cell? ⟨w.heap.size, 0, none⟩ = some (.int .i64 a0) ∧ W'.cell? ⟨w.heap.size, 1, none⟩ = some (.int .i64 a1) ∧ W'.cell? ⟨w.heap.size + 1, 0, none⟩ = some (.int .i64 b0) ∧ W'.cell? ⟨w.heap.size + 1, 1, none⟩ = some (.int .i64 b1) ∧ W'.cell? ⟨wn.heap.size, 0, none⟩ = some (.int .i64 m0) ∧ W'.cell? ⟨wn.heap.size, 1, none⟩ = some (.int .i64 m1)) := by
    intro W' hB
    have hz : wM.heap.size = wn.heap.size + 1 := by rw [← hwM]; simp
    subst hwM
    refine ⟨?_, ?_, ?_, ?_, ?_, ?_⟩
    all_goals (rw [(bcell hB).1 _ _ (by omega)]; clear hB hz; go_cell)
  have HBM0 : Hid (Below w.heap.size w wM) := by
    show Below w.heap.size w wM
    rw [← hwM]; (repeat' (first | (with_reducible exact Below.refl _ _) | (with_reducible refine Below.alloc ?_ ?_ _) | (with_reducible refine Below.setCell ?_ ?_ _) | (with_reducible refine Below.drew ?_) | (with_reducible refine below_drewN ?_ _) | (with_reducible assumption) | (with_reducible refine below_after (by with_reducible assumption) ?_) | go_size))
  rw [hwM]
  obtain ⟨x0, x1, x2, x3, x4, x5⟩ := HKM.out wM (Below.refl _ _)
  clear hwM hcl hfr hlt
  (repeat (first | clear hb | clear hcl | clear hfr | clear hlt | clear hclx | clear hfrx | clear hltx))
  go_upto_region 4 with (first | (go_at_call 59; refine (l01Det_any _ _ _ _ _ HBM.out.1 HBM.out.2 (isPt_bn1 HP2.out) (isPt_bn2 HP2.out)).mono ?_; rintro e wC ⟨rfl, hbC⟩) | (go_at_call 71; refine (l01Floor_big _ _ _ d1 (by omega) (by omega) (by omega)).mono ?_; rintro e wn ⟨rfl, rfl⟩))
  clear x0 x1 x2 x3 x4 x5
  have HKC : Hid (∀ W', Below wC.heap.size wC W' → W'.cell? ⟨w.heap.size, 0, none⟩ = some (.int .i64 a0) ∧ W'.cell? ⟨w.heap.size, 1, none⟩ = some (.int .i64 a1) ∧ W'.cell? ⟨w.heap.size + 1, 0, none⟩ = some (.int .i64 b0) ∧ W'.cell? ⟨w.heap.size + 1, 1, none⟩ = some (.int .i64 b1) ∧ W'.cell? ⟨wn.heap.size, 0, none⟩ = some (.int .i64 m0) ∧ W'.cell? ⟨wn.heap.size, 1, none⟩ = some (.int .i64 m1)) := fun W' hB => HKM.out W' (below_after hB hbC)
  have HBC : Hid (Below w.heap.size w wC) := below_after hbC HBM0.out
  rw [HFF.out]
  clear hbC
  go_cut [10, 11] (fun v10 v11 wx => ∃ P N : Nat, v10 = .slice (some ⟨P, 0, none⟩) 2 2 ∧ v11 = .slice (some ⟨N, 0, none⟩) 1 1 ∧ OwnF wC.heap.size wx (.slice (some ⟨P, 0, none⟩) 2 2) 2 [a0, a1, m0 + K0 * a0, m1 + K0 * a1] ∧ OwnI wC.heap.size wx (.slice (some ⟨N, 0, none⟩) 1 1) [2] ∧ P ≠ N ∧ Below wC.heap.size wC wx)
  case first =>
    refine wp_region_held_drew (S := fun W => Below wC.heap.size wC W) (by kernel_rfl) ?_ (fun hHeld => ?_); focus ((try dsimp only); (repeat' (first | (with_reducible exact Below.refl _ _) | (with_reducible refine Below.alloc ?_ ?_ _) | (with_reducible refine Below.setCell ?_ ?_ _) | (with_reducible refine Below.drew ?_) | (with_reducible refine below_drewN ?_ _) | (with_reducible assumption) | (with_reducible refine below_after (by with_reducible assumption) ?_) | go_size)))
    have hHeld : Below wC.heap.size wC _ := hHeld
    obtain ⟨wD, hwD⟩ : ∃ wD, wC.drew = wD := ⟨_, rfl⟩
    rw [hwD] at hHeld ⊢; clear hwD
    (refine wpAnyH_take (i := 0) (v := ?_) rfl (by kernel_rfl) (by kernel_rfl) (by kernel_rfl) (fun _ _ _ h => h) (Or.inl ⟨rfl, ?_⟩) (by assumption) ?_; rotate_left; focus (intro W hSw; (try dsimp only at hSw); obtain ⟨x0, x1, x2, x3, x4, x5⟩ := HKC.out _ hSw; go_simp; try (with_reducible rfl))); (try simp only [Act.put, List.getElem_toArray, List.getElem_cons_succ, List.getElem_cons_zero, List.setIfInBounds_toArray, List.set_cons_zero, List.set_cons_succ])
    (refine wpAnyH_take (i := 1) (v := ?_) rfl (by kernel_rfl) (by kernel_rfl) (by kernel_rfl) (fun _ _ _ h => h) (Or.inl ⟨rfl, ?_⟩) (by assumption) ?_; rotate_left; focus (intro W hSw; (try dsimp only at hSw); obtain ⟨x0, x1, x2, x3, x4, x5⟩ := HKC.out _ hSw; go_simp; try (with_reducible rfl))); (try simp only [Act.put, List.getElem_toArray, List.getElem_cons_succ, List.getElem_cons_zero, List.setIfInBounds_toArray, List.set_cons_zero, List.set_cons_succ])
    (refine wpAnyH_take (i := 2) (v := ?_) rfl (by kernel_rfl) (by kernel_rfl) (by kernel_rfl) (fun _ _ _ h => h) (Or.inl ⟨rfl, ?_⟩) (by assumption) ?_; rotate_left; focus (intro W hSw; (try dsimp only at hSw); obtain ⟨x0, x1, x2, x3, x4, x5⟩ := HKC.out _ hSw; go_simp; try (with_reducible rfl))); (try simp only [Act.put, List.getElem_toArray, List.getElem_cons_succ, List.getElem_cons_zero, List.setIfInBounds_toArray, List.set_cons_zero, List.set_cons_succ])
    (refine wpAnyH_take (i := 3) (v := ?_) rfl (by kernel_rfl) (by kernel_rfl) (by kernel_rfl) (fun _ _ _ h => h) (Or.inl ⟨rfl, ?_⟩) (by assumption) ?_; rotate_left; focus (intro W hSw; (try dsimp only at hSw); obtain ⟨x0, x1, x2, x3, x4, x5⟩ := HKC.out _ hSw; go_simp; try (with_reducible rfl))); (try simp only [Act.put, List.getElem_toArray, List.getElem_cons_succ, List.getElem_cons_zero, List.setIfInBounds_toArray, List.set_cons_zero, List.set_cons_succ])
    refine wpAnyH_ready (rs := [4, 6]) (by kernel_rfl) (by simp) ?_; refine AllReadyH.cons rfl (fun K hK => ?_) (AllReadyH.cons rfl (fun K hK => ?_) AllReadyH.nil)
    · go_simp; (go_at_call 72; refine (l01Plus_big _ _ _ _ _ _ hc1 hc2 HSM.out.1 HSM.out.2).mono ?_; rintro en w5 ⟨rfl, hb5⟩; have hz5 := hb5.size)
      refine hK.out _ _ (below_after hb5 hHeld) (fun hHeld2 => ?_); clear hb5; (clear hHeld; rename _ => hHeld; clear hK K; have hHeld : Below wC.heap.size wC _ := hHeld); (try simp only [Act.put, List.getElem_toArray, List.getElem_cons_succ, List.getElem_cons_zero, List.setIfInBounds_toArray, List.set_cons_zero, List.set_cons_succ])
      refine wpAnyH_ready (rs := [5, 6]) (by kernel_rfl) (by simp) ?_; refine AllReadyH.cons rfl (fun K hK => ?_) (AllReadyH.cons rfl (fun K hK => ?_) AllReadyH.nil)
      · go_simp
        have le_p : wC.heap.size ≤ w5.heap.size := Below.size hHeld
        have OP := Lib.hid (own_up (own_2 w5 a0 a1 (m0 + K0 * a0) (m1 + K0 * a1)) le_p)
        refine hK.out _ _ (Below.alloc hHeld (Below.size hHeld) _) (fun hHeld2 => ?_); (clear hHeld; rename _ => hHeld; clear hK K; have hHeld : Below wC.heap.size wC _ := hHeld); (try simp only [Act.put, List.getElem_toArray, List.getElem_cons_succ, List.getElem_cons_zero, List.setIfInBounds_toArray, List.set_cons_zero, List.set_cons_succ])
        obtain ⟨wp, hwx⟩ : ∃ wx, w5.alloc (.cells #[.int .i64 a0, .int .i64 a1, .int .i64 (m0 + K0 * a0), .int .i64 (m1 + K0 * a1)] 24) = wx := ⟨_, rfl⟩
        rw [hwx] at OP hHeld ⊢; clear hwx
        (refine wpAnyH_take (i := 7) (v := ?_) rfl (by kernel_rfl) (by kernel_rfl) (by kernel_rfl) (fun _ _ _ h => h) (Or.inl ⟨rfl, ?_⟩) (by assumption) ?_; rotate_left; focus (intro W hSw; (try dsimp only at hSw); obtain ⟨x0, x1, x2, x3, x4, x5⟩ := HKC.out _ hSw; go_simp; try (with_reducible rfl))); (try simp only [Act.put, List.getElem_toArray, List.getElem_cons_succ, List.getElem_cons_zero, List.setIfInBounds_toArray, List.set_cons_zero, List.set_cons_succ])
        refine wpAnyH_ready (rs := [6]) (by kernel_rfl) (by simp) ?_; refine AllReadyH.cons rfl (fun K hK => ?_) AllReadyH.nil
        go_simp
        have le_n : wC.heap.size ≤ wp.heap.size := Below.size hHeld
        have hne : w5.heap.size ≠ wp.heap.size := by have := (World.ownsRow.lt OP.out w5.heap.size rfl).2; omega
        have OP := Lib.hid (OwnF.below OP.out ((Below.refl _ _).alloc (Nat.le_refl _) (.cells #[.int .i64 2] 2)))
        have ON := Lib.hid (own_up (own_1 wp 2) le_n)
        refine hK.out _ _ (Below.alloc hHeld (Below.size hHeld) _) (fun hHeld2 => ?_); (clear hHeld; rename _ => hHeld; clear hK K; have hHeld : Below wC.heap.size wC _ := hHeld); (try simp only [Act.put, List.getElem_toArray, List.getElem_cons_succ, List.getElem_cons_zero, List.setIfInBounds_toArray, List.set_cons_zero, List.set_cons_succ])
        obtain ⟨wn, hwx⟩ : ∃ wx, wp.alloc (.cells #[.int .i64 2] 2) = wx := ⟨_, rfl⟩
        rw [hwx] at OP ON hHeld ⊢; clear hwx
        (refine wpAnyH_take (i := 8) (v := ?_) rfl (by kernel_rfl) (by kernel_rfl) (by kernel_rfl) (fun _ _ _ h => h) (Or.inl ⟨rfl, ?_⟩) (by assumption) ?_; rotate_left; focus (intro W hSw; (try dsimp only at hSw); obtain ⟨x0, x1, x2, x3, x4, x5⟩ := HKC.out _ hSw; go_simp; try (with_reducible rfl))); (try simp only [Act.put, List.getElem_toArray, List.getElem_cons_succ, List.getElem_cons_zero, List.setIfInBounds_toArray, List.set_cons_zero, List.set_cons_succ])
        refine wpAnyH_done (by kernel_rfl) ?_ _
        go_wp2_with fail
        go_meet
        exact ⟨_, _, rfl, rfl, OP.out, ON.out, hne, hHeld⟩
      · go_simp
        have le_n : wC.heap.size ≤ w5.heap.size := Below.size hHeld
        have ON := Lib.hid (own_up (own_1 w5 2) le_n)
        refine hK.out _ _ (Below.alloc hHeld (Below.size hHeld) _) (fun hHeld2 => ?_); (clear hHeld; rename _ => hHeld; clear hK K; have hHeld : Below wC.heap.size wC _ := hHeld); (try simp only [Act.put, List.getElem_toArray, List.getElem_cons_succ, List.getElem_cons_zero, List.setIfInBounds_toArray, List.set_cons_zero, List.set_cons_succ])
        obtain ⟨wn, hwx⟩ : ∃ wx, w5.alloc (.cells #[.int .i64 2] 2) = wx := ⟨_, rfl⟩
        rw [hwx] at ON hHeld ⊢; clear hwx
        refine wpAnyH_ready (rs := [5]) (by kernel_rfl) (by simp) ?_; refine AllReadyH.cons rfl (fun K hK => ?_) AllReadyH.nil
        go_simp
        have le_p : wC.heap.size ≤ wn.heap.size := Below.size hHeld
        have hne : wn.heap.size ≠ w5.heap.size := by have := (World.ownsRow.lt ON.out w5.heap.size rfl).2; omega
        have ON := Lib.hid (OwnI.below ON.out ((Below.refl _ _).alloc (Nat.le_refl _) (.cells #[.int .i64 a0, .int .i64 a1, .int .i64 (m0 + K0 * a0), .int .i64 (m1 + K0 * a1)] 24)))
        have OP := Lib.hid (own_up (own_2 wn a0 a1 (m0 + K0 * a0) (m1 + K0 * a1)) le_p)
        refine hK.out _ _ (Below.alloc hHeld (Below.size hHeld) _) (fun hHeld2 => ?_); (clear hHeld; rename _ => hHeld; clear hK K; have hHeld : Below wC.heap.size wC _ := hHeld); (try simp only [Act.put, List.getElem_toArray, List.getElem_cons_succ, List.getElem_cons_zero, List.setIfInBounds_toArray, List.set_cons_zero, List.set_cons_succ])
        obtain ⟨wp, hwx⟩ : ∃ wx, wn.alloc (.cells #[.int .i64 a0, .int .i64 a1, .int .i64 (m0 + K0 * a0), .int .i64 (m1 + K0 * a1)] 24) = wx := ⟨_, rfl⟩
        rw [hwx] at OP ON hHeld ⊢; clear hwx
        (refine wpAnyH_take (i := 7) (v := ?_) rfl (by kernel_rfl) (by kernel_rfl) (by kernel_rfl) (fun _ _ _ h => h) (Or.inl ⟨rfl, ?_⟩) (by assumption) ?_; rotate_left; focus (intro W hSw; (try dsimp only at hSw); obtain ⟨x0, x1, x2, x3, x4, x5⟩ := HKC.out _ hSw; go_simp; try (with_reducible rfl))); (try simp only [Act.put, List.getElem_toArray, List.getElem_cons_succ, List.getElem_cons_zero, List.setIfInBounds_toArray, List.set_cons_zero, List.set_cons_succ])
        (refine wpAnyH_take (i := 8) (v := ?_) rfl (by kernel_rfl) (by kernel_rfl) (by kernel_rfl) (fun _ _ _ h => h) (Or.inl ⟨rfl, ?_⟩) (by assumption) ?_; rotate_left; focus (intro W hSw; (try dsimp only at hSw); obtain ⟨x0, x1, x2, x3, x4, x5⟩ := HKC.out _ hSw; go_simp; try (with_reducible rfl))); (try simp only [Act.put, List.getElem_toArray, List.getElem_cons_succ, List.getElem_cons_zero, List.setIfInBounds_toArray, List.set_cons_zero, List.set_cons_succ])
        refine wpAnyH_done (by kernel_rfl) ?_ _
        go_wp2_with fail
        go_meet
        exact ⟨_, _, rfl, rfl, OP.out, ON.out, hne, hHeld⟩
    · go_simp
      have le_n : wC.heap.size ≤ wD.heap.size := Below.size hHeld
      have ON := Lib.hid (own_up (own_1 wD 2) le_n)
      refine hK.out _ _ (Below.alloc hHeld (Below.size hHeld) _) (fun hHeld2 => ?_); (clear hHeld; rename _ => hHeld; clear hK K; have hHeld : Below wC.heap.size wC _ := hHeld); (try simp only [Act.put, List.getElem_toArray, List.getElem_cons_succ, List.getElem_cons_zero, List.setIfInBounds_toArray, List.set_cons_zero, List.set_cons_succ])
      obtain ⟨wn, hwx⟩ : ∃ wx, wD.alloc (.cells #[.int .i64 2] 2) = wx := ⟨_, rfl⟩
      rw [hwx] at ON hHeld ⊢; clear hwx
      refine wpAnyH_ready (rs := [4]) (by kernel_rfl) (by simp) ?_; refine AllReadyH.cons rfl (fun K hK => ?_) AllReadyH.nil
      go_simp; (go_at_call 72; refine (l01Plus_big _ _ _ _ _ _ hc1 hc2 HSM.out.1 HSM.out.2).mono ?_; rintro en w5 ⟨rfl, hb5⟩; have hz5 := hb5.size)
      have ON := Lib.hid (OwnI.below ON.out hb5)
      refine hK.out _ _ (below_after hb5 hHeld) (fun hHeld2 => ?_); clear hb5; (clear hHeld; rename _ => hHeld; clear hK K; have hHeld : Below wC.heap.size wC _ := hHeld); (try simp only [Act.put, List.getElem_toArray, List.getElem_cons_succ, List.getElem_cons_zero, List.setIfInBounds_toArray, List.set_cons_zero, List.set_cons_succ])
      refine wpAnyH_ready (rs := [5]) (by kernel_rfl) (by simp) ?_; refine AllReadyH.cons rfl (fun K hK => ?_) AllReadyH.nil
      go_simp
      have le_p : wC.heap.size ≤ w5.heap.size := Below.size hHeld
      have hne : w5.heap.size ≠ wD.heap.size := by have := (World.ownsRow.lt ON.out wD.heap.size rfl).2; omega
      have ON := Lib.hid (OwnI.below ON.out ((Below.refl _ _).alloc (Nat.le_refl _) (.cells #[.int .i64 a0, .int .i64 a1, .int .i64 (m0 + K0 * a0), .int .i64 (m1 + K0 * a1)] 24)))
      have OP := Lib.hid (own_up (own_2 w5 a0 a1 (m0 + K0 * a0) (m1 + K0 * a1)) le_p)
      refine hK.out _ _ (Below.alloc hHeld (Below.size hHeld) _) (fun hHeld2 => ?_); (clear hHeld; rename _ => hHeld; clear hK K; have hHeld : Below wC.heap.size wC _ := hHeld); (try simp only [Act.put, List.getElem_toArray, List.getElem_cons_succ, List.getElem_cons_zero, List.setIfInBounds_toArray, List.set_cons_zero, List.set_cons_succ])
      obtain ⟨wp, hwx⟩ : ∃ wx, w5.alloc (.cells #[.int .i64 a0, .int .i64 a1, .int .i64 (m0 + K0 * a0), .int .i64 (m1 + K0 * a1)] 24) = wx := ⟨_, rfl⟩
      rw [hwx] at OP ON hHeld ⊢; clear hwx
      (refine wpAnyH_take (i := 7) (v := ?_) rfl (by kernel_rfl) (by kernel_rfl) (by kernel_rfl) (fun _ _ _ h => h) (Or.inl ⟨rfl, ?_⟩) (by assumption) ?_; rotate_left; focus (intro W hSw; (try dsimp only at hSw); obtain ⟨x0, x1, x2, x3, x4, x5⟩ := HKC.out _ hSw; go_simp; try (with_reducible rfl))); (try simp only [Act.put, List.getElem_toArray, List.getElem_cons_succ, List.getElem_cons_zero, List.setIfInBounds_toArray, List.set_cons_zero, List.set_cons_succ])
      (refine wpAnyH_take (i := 8) (v := ?_) rfl (by kernel_rfl) (by kernel_rfl) (by kernel_rfl) (fun _ _ _ h => h) (Or.inl ⟨rfl, ?_⟩) (by assumption) ?_; rotate_left; focus (intro W hSw; (try dsimp only at hSw); obtain ⟨x0, x1, x2, x3, x4, x5⟩ := HKC.out _ hSw; go_simp; try (with_reducible rfl))); (try simp only [Act.put, List.getElem_toArray, List.getElem_cons_succ, List.getElem_cons_zero, List.setIfInBounds_toArray, List.set_cons_zero, List.set_cons_succ])
      refine wpAnyH_done (by kernel_rfl) ?_ _
      go_wp2_with fail
      go_meet
      exact ⟨_, _, rfl, rfl, OP.out, ON.out, hne, hHeld⟩
  case rest =>
    obtain ⟨P, N, rfl, rfl, oP, oN, hPN, hBx⟩ := hcut
    obtain ⟨w1, rfl⟩ : ∃ w1, w1 = wc := ⟨_, rfl⟩
    obtain ⟨⟨v1x, v1y⟩, hv1⟩ : ∃ v, nxS (b0, b1) (preS (a0, a1)) (a0, a1) = v := ⟨_, rfl⟩
    have hv2 := HFN.out
    rw [hv1] at hv2
    have hvx : m0 + K0 * a0 = v1x := (congrArg Prod.fst hv2).symm
    have hvy : m1 + K0 * a1 = v1y := (congrArg Prod.snd hv2).symm
    rw [hvx, hvy] at oP
    have OP := Lib.hid oP
    have ON := Lib.hid oN
    have HB1 := Lib.hid hBx
    have HI0 := HN1.out
    rw [hv1] at HI0
    have HI1 := Lib.hid HI0
    have hsl := slI_step HAN.out
    rw [hv1] at hsl
    have HSL := Lib.hid hsl
    have hcn : cnI (a0, a1) (b0, b1) = 2 :: csN (b0, b1) (detP (a0, a1) (b0, b1)).toNat (a0, a1) (v1x, v1y) := by unfold cnI; rw [hv1]
    have HCN := Lib.hid hcn
    have hd1 : (detP (v1x, v1y) (b0, b1)).toNat < (detP (a0, a1) (b0, b1)).toNat := by
      have h2 := (sl_next HAN.out (sl_first HAN.out) d1).2.1
      rw [hv1] at h2
      have := HI0.2.1
      omega
    have HD1 := Lib.hid hd1
    have HBN : Hid (Bn b0 ∧ Bn b1) := ⟨isPt_bn1 HP2.out, isPt_bn2 HP2.out⟩
    clear oP oN hBx hv1 hv2 hvx hvy HI0 hsl hcn hd1 HFN HN1 HKM HBM0 HFF HP1 HP2 HSM HBM HLB fr1 fr2 hc1 hc2 hmd
    go_wp2
    go_loopw [10, 11] (fun p q wr => ∃ (m m1 n g cp : Nat) (pre : List (Int × Int)) (ux uy vx vy : Int) (ns : List Int) (f : Nat), m1 = m + 1 ∧ n = m + 2 ∧ p = .slice (some ⟨g, 0, none⟩) n cp ∧ pre.length = m ∧ OwnF wC.heap.size wr (.slice (some ⟨g, 0, none⟩) n cp) n (flat (pre ++ [(ux, uy), (vx, vy)])) ∧ OwnI wC.heap.size wr q ns ∧ q.ownBlock ≠ some g ∧ SlI (a0, a1) (b0, b1) (ux, uy) (vx, vy) ∧ (detP (vx, vy) (b0, b1)).toNat < f ∧ (pre ++ [(ux, uy)]) ++ slN (b0, b1) f (ux, uy) (vx, vy) = slI (a0, a1) (b0, b1) ∧ ns ++ csN (b0, b1) f (ux, uy) (vx, vy) = cnI (a0, a1) (b0, b1) ∧ n ≤ 2001 ∧ ns.length ≤ n ∧ Below wC.heap.size wC wr) (fun p _ _ => 2003 - (match p with | .slice _ n _ => n | _ => 0))
    case atStart => exact ⟨0, 1, 2, P, 2, [], a0, a1, v1x, v1y, [2], (detP (a0, a1) (b0, b1)).toNat, rfl, rfl, rfl, rfl, OP.out, ON.out, by show some N ≠ some P; intro e; exact hPN (by cases e; rfl), HI1.out, HD1.out, by rw [HSL.out]; rfl, by rw [HCN.out]; rfl, by omega, by simp, HB1.out⟩
    case round =>
      obtain ⟨m, m1, n, g, cp, pre, ux, uy, vx, vy, ns, f0, hm1, hn, rfl, hpl, oP, oN, hap, hI, hf, hsl, hcs, hn1, hns, hbel⟩ := hrel
      obtain ⟨f, rfl⟩ : ∃ f, f0 = f + 1 := ⟨f0 - 1, by omega⟩
      obtain ⟨qa, qc, rfl, _⟩ := own_view oN
      have hlen1 : m + 2 ≤ (slI (a0, a1) (b0, b1)).length := by
        rw [← hsl, List.length_append, List.length_append]
        have := slN_len1 (b := (b0, b1)) (u := (ux, uy)) (v := (vx, vy)) (n := f)
        simp only [List.length_cons, List.length_nil]
        omega
      obtain ⟨a', cp', he, fv⟩ := own_viewF oP
      obtain ⟨g', hg', _, hgl, hcell, _⟩ := fv (by omega)
      obtain rfl : g = g' := by simp only [Value.slice.injEq] at he; rw [hg'] at he; simpa using he.1
      obtain ⟨fl0, fl1, fl2, fl3⟩ := flat_at pre (ux, uy) (vx, vy) m hpl
      have k0 := hcell (m * 2) (by omega)
      have k1 := hcell (m * 2 + 1) (by omega)
      have k2 := hcell ((m + 1) * 2) (by omega)
      have k3 := hcell ((m + 1) * 2 + 1) (by omega)
      rw [fl0] at k0
      rw [fl1] at k1
      rw [fl2, ← hm1] at k2
      rw [fl3, ← hm1] at k3
      dsimp only at k0 k1 k2 k3
      have OP := Lib.hid oP
      have ON := Lib.hid oN
      have HI := Lib.hid hI
      have HSL := Lib.hid hsl
      have HCS := Lib.hid hcs
      have HL1 := Lib.hid hlen1
      have HPL := Lib.hid hpl
      have HAP := Lib.hid hap
      have HBE := Lib.hid hbel
      have HM1 := Lib.hid hm1
      have HNN := Lib.hid hn
      have HF := Lib.hid hf
      have HNS := Lib.hid hns
      have i1 : (n : Int) - 2 = (m : Int) := by omega
      have i2 : (n : Int) - 1 = (m1 : Int) := by omega
      have i3 : (0 : Int) ≤ (m : Int) := by omega
      have i4 : (m : Int) < (n : Int) := by omega
      have i5 : (0 : Int) ≤ (m1 : Int) := by omega
      have i6 : (m1 : Int) < (n : Int) := by omega
      have i7 : (n : Int) ≤ 2001 := by omega
      have i8 : IntKind.i64.wrap (m : Int) = (m : Int) := by rw [IntKind.wrap_i64]; omega
      have i9 : IntKind.i64.wrap (m1 : Int) = (m1 : Int) := by rw [IntKind.wrap_i64]; omega
      clear hcell fv he fl0 fl1 fl2 fl3 hI hsl hcs hlen1 hpl hap hf hns oP oN hg'
      by_cases hlim : 2000 < n
      · have hl2 : (2000 : Int) < (n : Int) := by omega
        have hno : ¬ (slI (a0, a1) (b0, b1)).length ≤ 2000 := by have := HL1.out; omega
        have HNO := Lib.hid hno
        clear hn hm1 hno
        go_wp2
        rw [← HR.out]
        have hno := HNO.out
        rw [if_neg hno, if_neg hno, show decide ((slI (a0, a1) (b0, b1)).length ≤ 2000) = false by simp [hno]]
        exact ⟨_, _, rfl, World.ownsRow_nil _ _ _ _, World.ownsRow_nil _ _ _ _, HBC.out.trans (hbel.mono HBC.out.size)⟩
      · have hl2 : (n : Int) ≤ 2000 := by omega
        have hn2 : n ≤ 2000 := by omega
        have HK8 : Hid (∀ W', Below wr.heap.size wr W' → W'.cell? ⟨g, m * 2, none⟩ = some (.int .i64 ux) ∧ W'.cell? ⟨g, m * 2 + 1, none⟩ = some (.int .i64 uy) ∧ W'.cell? ⟨g, m1 * 2, none⟩ = some (.int .i64 vx) ∧ W'.cell? ⟨g, m1 * 2 + 1, none⟩ = some (.int .i64 vy) ∧ W'.cell? ⟨w.heap.size + 1, 0, none⟩ = some (.int .i64 b0) ∧ W'.cell? ⟨w.heap.size + 1, 1, none⟩ = some (.int .i64 b1)) := by
          intro W' hB
          obtain ⟨_, _, x2, x3, _, _⟩ := HKC.out wr HBE.out
          have hxs : w.heap.size + 1 < wr.heap.size := World.block_lt_of_cell? wr _ x2
          refine ⟨?_, ?_, ?_, ?_, ?_, ?_⟩
          all_goals (rw [(bcell hB).1 _ _ (by omega)]; assumption)
        clear hn hm1 k0 k1 k2 k3 hbel
        obtain ⟨x0, x1, x2, x3, x4, x5⟩ := HK8.out wr (Below.refl _ _)
        go_upto_region 8 with fail
        clear x0 x1 x2 x3 x4 x5
        obtain ⟨_, j2, j3, _, _, ju, jv, j8, j9⟩ := HI.out
        have HSU := Lib.hid ju
        have HSV := Lib.hid jv
        go_cut [13, 14] (fun v13 v14 wx => v13 = .int .i64 (detP (ux, uy) (b0, b1)) ∧ v14 = .int .i64 (detP (vx, vy) (b0, b1)) ∧ Below wr.heap.size wr wx)
        case first =>
          go_region_held3 (fun W' => W'.cell? ⟨g, m * 2, none⟩ = some (.int .i64 ux) ∧ W'.cell? ⟨g, m * 2 + 1, none⟩ = some (.int .i64 uy) ∧ W'.cell? ⟨g, m1 * 2, none⟩ = some (.int .i64 vx) ∧ W'.cell? ⟨g, m1 * 2 + 1, none⟩ = some (.int .i64 vy) ∧ W'.cell? ⟨w.heap.size + 1, 0, none⟩ = some (.int .i64 b0) ∧ W'.cell? ⟨w.heap.size + 1, 1, none⟩ = some (.int .i64 b1)) ((refine (HK8.out _ ?_); repeat' (first | (with_reducible refine Below.alloc ?_ ?_ _) | (with_reducible refine Below.setCell ?_ ?_ _) | (with_reducible refine Below.drew ?_) | (with_reducible exact Below.refl _ _) | (with_reducible refine below_after (by with_reducible assumption) ?_) | (first | omega | (simp only [World.size_alloc, World.size_drew, World.size_setCell]; omega))))) (first | (go_at_call 59; refine (l01Det_any _ _ _ _ _ (by first | exact (sm_bn HSU.out).1 | exact (sm_bn HSV.out).1) (by first | exact (sm_bn HSU.out).2 | exact (sm_bn HSV.out).2) HBN.out.1 HBN.out.2).mono ?_; rintro e wn ⟨rfl, hb⟩; have hsz := hb.size; (try simp only [World.size_alloc, World.size_setCell, World.size_drew] at hsz); first | (revert hb; with_reducible change Below (World.heap (World.alloc _ _)).size (World.alloc _ _) _ → _; intro hb; have hnw := after_new hb; (try simp only [World.size_alloc, World.size_drew] at hnw)) | (revert hb; with_reducible change Below (World.heap (World.drew (World.alloc _ _))).size (World.drew (World.alloc _ _)) _ → _; intro hb; have hnw := after_newd hb; (try simp only [World.size_alloc, World.size_drew] at hnw)) | (revert hnw; with_reducible change (World.cell? _ _ = some _ ∧ World.cell? _ _ = some _ ∧ World.frozen? _ _ = false ∧ World.frozen? _ _ = false ∧ (_ : Nat) < _) → _; intro hnw; have hnw := after_old hb hnw) | skip))
          all_goals
            go_wp2_with fail
            go_meet
            exact ⟨rfl, rfl, by (repeat' (first | (with_reducible exact Below.refl _ _) | (with_reducible refine Below.alloc ?_ ?_ _) | (with_reducible refine Below.setCell ?_ ?_ _) | (with_reducible refine Below.drew ?_) | (with_reducible refine below_drewN ?_ _) | (with_reducible assumption) | (with_reducible refine below_after (by with_reducible assumption) ?_) | go_size))⟩
        case rest =>
          obtain ⟨rfl, rfl, hBy⟩ := hcut
          obtain ⟨w4, rfl⟩ : ∃ w4, w4 = wc := ⟨_, rfl⟩
          have OP4 := Lib.hid (OwnF.below OP.out hBy)
          have ON4 := Lib.hid (OwnI.below ON.out hBy)
          have HBE4 : Hid (Below wC.heap.size wC w4) := below_after hBy HBE.out
          have hz4 := hBy.size
          clear hBy
          have hcs4 := wr.heap.size
          by_cases hv : (vx, vy) = (b0, b1)
          · have hx : vx = b0 := congrArg Prod.fst hv
            have hy : vy = b1 := congrArg Prod.snd hv
            have hz : detP (vx, vy) (b0, b1) = 0 := by rw [hv]; exact det_self _
            have hend : (pre ++ [(ux, uy), (vx, vy)]) = slI (a0, a1) (b0, b1) := by
              rw [← HSL.out, hv, slN_end]; simp
            have hlen : (slI (a0, a1) (b0, b1)).length = n := by
              rw [← hend, List.length_append, HPL.out, HNN.out]; rfl
            have hce : ns ++ [2] = cnI (a0, a1) (b0, b1) := by rw [← HCS.out, hv, csN_end]
            have HEN := Lib.hid hend
            have HLE := Lib.hid hlen
            have HCE := Lib.hid hce
            rw [hz]
            clear hx hy hv hz hend hlen hce
            go_wp2_with (first | (at_builtin; refine wpList_append_own_at _ rfl _ _ 32 rfl wC.heap.size 2 i0 (.int .i64 0) 1 8 Try.underlying32 hi hz0 hz1 hz2 rfl (by decide) _ _ _ rfl (ON4.out.alloc _) ⟨w4.heap.size, 0, none⟩ 1 1 [.int .i64 2] rfl rfl ?c1 ?c2 ?c3 ?c4 ?c5 ?_))
            case c1 =>
              intro j u hj
              match j, hj with
              | 0, hj => simp at hj; subst hj; simp [Addr.add]
            case c2 => intro u hu; simp at hu; subst hu; rfl
            case c3 => have := HNS.out; unfold maxLen; omega
            case c4 => have := HNS.out; omega
            case c5 => have h1 := HBE4.out.size; simp only [World.size_alloc]; omega
            intro v' w5 hown' hgrow hnil hat
            have HP5 : Hid (OwnF wC.heap.size w5 (.slice (some ⟨g, 0, none⟩) n cp) n (flat (pre ++ [(ux, uy), (vx, vy)]))) := by
              refine World.ownsRow.kept (OP4.out.alloc _) hgrow (.inr ?_)
              show some g ≠ _
              exact fun e => HAP.out e.symm
            have HN5 : Hid (OwnI wC.heap.size w5 v' (ns ++ [2])) := by
              show w5.ownsRow wC.heap.size 2 1 v' (ns ++ [2]).length ((ns ++ [2]).map (Value.int .i64))
              rw [List.length_append, List.map_append]; exact hown'
            have hb5 : Below wC.heap.size wC w5 := Below.grown (HBE4.out.alloc HBE4.out.size _) hgrow (by have h1 := HBE4.out.size; simp only [World.size_alloc]; omega) (fun k hk => (ON4.out.lt k hk).1)
            have HB5 := Lib.hid hb5
            clear hown' hgrow hnil hat hb5
            go_wp2
            rw [← HR.out]
            have hok : (slI (a0, a1) (b0, b1)).length ≤ 2000 := by rw [HLE.out]; exact hn2
            rw [if_pos hok, if_pos hok, show decide ((slI (a0, a1) (b0, b1)).length ≤ 2000) = true by simp [hok]]
            refine ⟨_, _, rfl, ?_, ?_, HBC.out.trans (HB5.out.mono HBC.out.size)⟩
            · rw [HLE.out, ← HEN.out]; exact own_up HP5.out HBC.out.size
            · rw [← HCE.out]; exact own_up HN5.out HBC.out.size
          · have hq1 := sl_pos HAN.out HI.out hv
            have hq0 : (detP (vx, vy) (b0, b1) == 0) = false := by
              cases hq : (detP (vx, vy) (b0, b1) == 0)
              · rfl
              · simp only [beq_iff_eq] at hq; omega
            have hq9 : ¬ detP (vx, vy) (b0, b1) = 0 := by omega
            obtain ⟨hn1', hn2', _, hn4, hn5⟩ := sl_next HAN.out HI.out hq1
            obtain ⟨C, hC⟩ : ∃ C, cS (b0, b1) (ux, uy) (vx, vy) = C := ⟨_, rfl⟩
            have HC : Hid (-((-detP (ux, uy) (b0, b1)) / detP (vx, vy) (b0, b1)) = C) := hC
            have HNX : Hid (nxS (b0, b1) (ux, uy) (vx, vy) = (C * vx - ux, C * vy - uy)) := by
              show nxS (b0, b1) (ux, uy) (vx, vy) = (C * vx - ux, C * vy - uy)
              unfold nxS; rw [hC]
            have hsl2 : ((pre ++ [(ux, uy)]) ++ [(vx, vy)]) ++ slN (b0, b1) f (vx, vy) (C * vx - ux, C * vy - uy) = slI (a0, a1) (b0, b1) := by
              rw [← HSL.out, slN_go hv, HNX.out]; simp
            have hcs2 : (ns ++ [C]) ++ csN (b0, b1) f (vx, vy) (C * vx - ux, C * vy - uy) = cnI (a0, a1) (b0, b1) := by
              rw [← HCS.out, csN_go hv, HNX.out, hC]; simp
            rw [hC] at hn4 hn5
            rw [HNX.out] at hn1' hn2'
            have HN1' := Lib.hid hn1'
            have HN2' := Lib.hid hn2'
            have HSL2 := Lib.hid hsl2
            have HCS2 := Lib.hid hcs2
            have HSN : Hid (Sm (-ux, -uy)) := by
              have := HSU.out
              show Sm (-ux, -uy)
              unfold Sm at this ⊢
              dsimp only at this ⊢
              omega
            obtain ⟨s1, s2, s3, s4⟩ := HSU.out
            dsimp only at s1 s2 s3 s4
            have nw1 : IntKind.i64.wrap (-ux) = -ux := by rw [IntKind.wrap_i64]; omega
            have nw2 : IntKind.i64.wrap (-uy) = -uy := by rw [IntKind.wrap_i64]; omega
            obtain ⟨fr1, fr2⟩ := floor_range (p := -detP (ux, uy) (b0, b1)) hq1 (by omega) (by omega)
            clear hv hC hsl2 hcs2 hn1' hn2'
            go_upto_region 12 with (go_at_call 71; refine (l01Floor_big _ _ _ hq1 (by omega) (by omega) (by omega)).mono ?_; rintro e wn ⟨rfl, rfl⟩)
            rw [HC.out]
            go_upto_region 13 with (first | (at_builtin; refine wpList_append_own_at _ rfl _ _ 32 rfl wC.heap.size 2 i0 (.int .i64 0) 1 8 Try.underlying32 hi hz0 hz1 hz2 rfl (by decide) _ _ _ rfl (ON4.out.alloc _) ⟨w4.heap.size, 0, none⟩ 1 1 [.int .i64 C] rfl rfl ?c1 ?c2 ?c3 ?c4 ?c5 ?_))
            case c1 =>
              intro j u hj
              match j, hj with
              | 0, hj => simp at hj; subst hj; simp [Addr.add]
            case c2 => intro u hu; simp at hu; subst hu; rfl
            case c3 => have := HNS.out; unfold maxLen; omega
            case c4 => have := HNS.out; omega
            case c5 => have h1 := HBE4.out.size; simp only [World.size_alloc]; omega
            intro v' wy hown' hgrow hnil hat
            have HPy : Hid (OwnF wC.heap.size wy (.slice (some ⟨g, 0, none⟩) n cp) n (flat (pre ++ [(ux, uy), (vx, vy)]))) := by
              refine World.ownsRow.kept (OP4.out.alloc _) hgrow (.inr ?_)
              show some g ≠ _
              exact fun e => HAP.out e.symm
            have hN5 : OwnI wC.heap.size wy v' (ns ++ [C]) := by
              show wy.ownsRow wC.heap.size 2 1 v' (ns ++ [C]).length ((ns ++ [C]).map (Value.int .i64))
              rw [List.length_append, List.map_append]; exact hown'
            have hap5 : v'.ownBlock ≠ some g := by
              rcases hat with h | h
              · rw [h]; exact HAP.out
              · intro e
                have hgl4 : g < w4.heap.size := (World.ownsRow.lt OP4.out g rfl).2
                rw [e] at h
                have h' : some g = some (w4.heap.size + 1) := h
                simp only [Option.some.injEq] at h'
                omega
            have hb5 : Below wC.heap.size wC wy := Below.grown (HBE4.out.alloc HBE4.out.size _) hgrow (by have h1 := HBE4.out.size; simp only [World.size_alloc]; omega) (fun k hk => (ON4.out.lt k hk).1)
            obtain ⟨nl, hnl⟩ : ∃ nl, (ns ++ [C]).length = nl := ⟨_, rfl⟩
            obtain ⟨qa2, qc2, hv2, _⟩ := own_view hN5
            rw [hnl] at hv2
            subst hv2
            have HN5 := Lib.hid hN5
            have HAP5 := Lib.hid hap5
            have HB5 := Lib.hid hb5
            have HK13 : Hid (∀ W', Below wy.heap.size wy W' → W'.cell? ⟨g, m * 2, none⟩ = some (.int .i64 ux) ∧ W'.cell? ⟨g, m * 2 + 1, none⟩ = some (.int .i64 uy) ∧ W'.cell? ⟨g, m1 * 2, none⟩ = some (.int .i64 vx) ∧ W'.cell? ⟨g, m1 * 2 + 1, none⟩ = some (.int .i64 vy) ∧ W'.cell? ⟨w.heap.size + 1, 0, none⟩ = some (.int .i64 b0) ∧ W'.cell? ⟨w.heap.size + 1, 1, none⟩ = some (.int .i64 b1)) := by
              intro W' hB
              obtain ⟨a', cp', he, fv⟩ := own_viewF HPy.out
              obtain ⟨g', hg', _, hgl, hcell, _⟩ := fv (by omega)
              obtain rfl : g = g' := by simp only [Value.slice.injEq] at he; rw [hg'] at he; simpa using he.1
              obtain ⟨fl0, fl1, fl2, fl3⟩ := flat_at pre (ux, uy) (vx, vy) m HPL.out
              have hm1 := HM1.out
              have hn := HNN.out
              have k0 := hcell (m * 2) (by omega)
              have k1 := hcell (m * 2 + 1) (by omega)
              have k2 := hcell ((m + 1) * 2) (by omega)
              have k3 := hcell ((m + 1) * 2 + 1) (by omega)
              rw [fl0] at k0
              rw [fl1] at k1
              rw [fl2, ← hm1] at k2
              rw [fl3, ← hm1] at k3
              obtain ⟨_, _, x2, x3, _, _⟩ := HKC.out wy HB5.out
              have hxs : w.heap.size + 1 < wy.heap.size := World.block_lt_of_cell? wy _ x2
              refine ⟨?_, ?_, ?_, ?_, ?_, ?_⟩
              all_goals (rw [(bcell hB).1 _ _ (by omega)]; assumption)
            clear hown' hgrow hnil hat hb5 hN5 hap5
            go_upto_region 13 with fail
            go_cut [16] (fun v16 wx => ∃ G : Nat, v16 = .pointer (some ⟨G, 0, none⟩) ∧ Pc wx G (-ux + C * vx, -uy + C * vy) ∧ wy.heap.size ≤ G ∧ Below wy.heap.size wy wx)
            case first =>
                refine wp_region_held_drew (S := fun W => Below wy.heap.size wy W) (by kernel_rfl) ?_ (fun hHeld => ?_); focus ((try dsimp only); (repeat' (first | (with_reducible exact Below.refl _ _) | (with_reducible refine Below.alloc ?_ ?_ _) | (with_reducible refine Below.setCell ?_ ?_ _) | (with_reducible refine Below.drew ?_) | (with_reducible refine below_drewN ?_ _) | (with_reducible assumption) | (with_reducible refine below_after (by with_reducible assumption) ?_) | go_size)))
                have hHeld : Below wy.heap.size wy _ := hHeld
                obtain ⟨wD, hwD⟩ : ∃ wD, wy.drew = wD := ⟨_, rfl⟩
                rw [hwD] at hHeld ⊢; clear hwD
                (refine wpAnyH_take (i := 0) (v := ?_) rfl (by kernel_rfl) (by kernel_rfl) (by kernel_rfl) (fun _ _ _ h => h) (Or.inl ⟨rfl, ?_⟩) (by assumption) ?_; rotate_left; focus (intro W hSw; (try dsimp only at hSw); obtain ⟨x0, x1, x2, x3, x4, x5⟩ := HK13.out _ hSw; go_simp; try (with_reducible rfl))); (try simp only [Act.put, List.getElem_toArray, List.getElem_cons_succ, List.getElem_cons_zero, List.setIfInBounds_toArray, List.set_cons_zero, List.set_cons_succ])
                (refine wpAnyH_take (i := 1) (v := ?_) rfl (by kernel_rfl) (by kernel_rfl) (by kernel_rfl) (fun _ _ _ h => h) (Or.inl ⟨rfl, ?_⟩) (by assumption) ?_; rotate_left; focus (intro W hSw; (try dsimp only at hSw); obtain ⟨x0, x1, x2, x3, x4, x5⟩ := HK13.out _ hSw; go_simp; try (with_reducible rfl))); (try simp only [Act.put, List.getElem_toArray, List.getElem_cons_succ, List.getElem_cons_zero, List.setIfInBounds_toArray, List.set_cons_zero, List.set_cons_succ])
                (refine wpAnyH_take (i := 2) (v := ?_) rfl (by kernel_rfl) (by kernel_rfl) (by kernel_rfl) (fun _ _ _ h => h) (Or.inl ⟨rfl, ?_⟩) (by assumption) ?_; rotate_left; focus (intro W hSw; (try dsimp only at hSw); obtain ⟨x0, x1, x2, x3, x4, x5⟩ := HK13.out _ hSw; go_simp; try (with_reducible rfl))); (try simp only [Act.put, List.getElem_toArray, List.getElem_cons_succ, List.getElem_cons_zero, List.setIfInBounds_toArray, List.set_cons_zero, List.set_cons_succ])
                (refine wpAnyH_take (i := 3) (v := ?_) rfl (by kernel_rfl) (by kernel_rfl) (by kernel_rfl) (fun _ _ _ h => h) (Or.inl ⟨rfl, ?_⟩) (by assumption) ?_; rotate_left; focus (intro W hSw; (try dsimp only at hSw); obtain ⟨x0, x1, x2, x3, x4, x5⟩ := HK13.out _ hSw; go_simp; try (with_reducible rfl))); (try simp only [Act.put, List.getElem_toArray, List.getElem_cons_succ, List.getElem_cons_zero, List.setIfInBounds_toArray, List.set_cons_zero, List.set_cons_succ])
                (refine wpAnyH_take (i := 4) (v := ?_) rfl (by kernel_rfl) (by kernel_rfl) (by kernel_rfl) (fun _ _ _ h => h) (Or.inl ⟨rfl, ?_⟩) (by assumption) ?_; rotate_left; focus (intro W hSw; (try dsimp only at hSw); obtain ⟨x0, x1, x2, x3, x4, x5⟩ := HK13.out _ hSw; go_simp; try (with_reducible rfl))); (try simp only [Act.put, List.getElem_toArray, List.getElem_cons_succ, List.getElem_cons_zero, List.setIfInBounds_toArray, List.set_cons_zero, List.set_cons_succ])
                (refine wpAnyH_take (i := 5) (v := ?_) rfl (by kernel_rfl) (by kernel_rfl) (by kernel_rfl) (fun _ _ _ h => h) (Or.inl ⟨rfl, ?_⟩) (by assumption) ?_; rotate_left; focus (intro W hSw; (try dsimp only at hSw); obtain ⟨x0, x1, x2, x3, x4, x5⟩ := HK13.out _ hSw; go_simp; try (with_reducible rfl))); (try simp only [Act.put, List.getElem_toArray, List.getElem_cons_succ, List.getElem_cons_zero, List.setIfInBounds_toArray, List.set_cons_zero, List.set_cons_succ])
                (refine wpAnyH_take (i := 6) (v := ?_) rfl (by kernel_rfl) (by kernel_rfl) (by kernel_rfl) (fun _ _ _ h => h) (Or.inl ⟨rfl, ?_⟩) (by assumption) ?_; rotate_left; focus (intro W hSw; (try dsimp only at hSw); obtain ⟨x0, x1, x2, x3, x4, x5⟩ := HK13.out _ hSw; go_simp; try (with_reducible rfl))); (try simp only [Act.put, List.getElem_toArray, List.getElem_cons_succ, List.getElem_cons_zero, List.setIfInBounds_toArray, List.set_cons_zero, List.set_cons_succ])
                (refine wpAnyH_take (i := 7) (v := ?_) rfl (by kernel_rfl) (by kernel_rfl) (by kernel_rfl) (fun _ _ _ h => h) (Or.inl ⟨rfl, ?_⟩) (by assumption) ?_; rotate_left; focus (intro W hSw; (try dsimp only at hSw); obtain ⟨x0, x1, x2, x3, x4, x5⟩ := HK13.out _ hSw; go_simp; try (with_reducible rfl))); (try simp only [Act.put, List.getElem_toArray, List.getElem_cons_succ, List.getElem_cons_zero, List.setIfInBounds_toArray, List.set_cons_zero, List.set_cons_succ])
                (refine wpAnyH_take (i := 8) (v := ?_) rfl (by kernel_rfl) (by kernel_rfl) (by kernel_rfl) (fun _ _ _ h => h) (Or.inl ⟨rfl, ?_⟩) (by assumption) ?_; rotate_left; focus (intro W hSw; (try dsimp only at hSw); obtain ⟨x0, x1, x2, x3, x4, x5⟩ := HK13.out _ hSw; go_simp; try (with_reducible rfl))); (try simp only [Act.put, List.getElem_toArray, List.getElem_cons_succ, List.getElem_cons_zero, List.setIfInBounds_toArray, List.set_cons_zero, List.set_cons_succ])
                (refine wpAnyH_take (i := 9) (v := ?_) rfl (by kernel_rfl) (by kernel_rfl) (by kernel_rfl) (fun _ _ _ h => h) (Or.inl ⟨rfl, ?_⟩) (by assumption) ?_; rotate_left; focus (intro W hSw; (try dsimp only at hSw); obtain ⟨x0, x1, x2, x3, x4, x5⟩ := HK13.out _ hSw; go_simp; try (with_reducible rfl))); (try simp only [Act.put, List.getElem_toArray, List.getElem_cons_succ, List.getElem_cons_zero, List.setIfInBounds_toArray, List.set_cons_zero, List.set_cons_succ])
                (refine wpAnyH_take (i := 10) (v := ?_) rfl (by kernel_rfl) (by kernel_rfl) (by kernel_rfl) (fun _ _ _ h => h) (Or.inl ⟨rfl, ?_⟩) (by assumption) ?_; rotate_left; focus (intro W hSw; (try dsimp only at hSw); obtain ⟨x0, x1, x2, x3, x4, x5⟩ := HK13.out _ hSw; go_simp; try (with_reducible rfl))); (try simp only [Act.put, List.getElem_toArray, List.getElem_cons_succ, List.getElem_cons_zero, List.setIfInBounds_toArray, List.set_cons_zero, List.set_cons_succ])
                (refine wpAnyH_take (i := 11) (v := ?_) rfl (by kernel_rfl) (by kernel_rfl) (by kernel_rfl) (fun _ _ _ h => h) (Or.inl ⟨rfl, ?_⟩) (by assumption) ?_; rotate_left; focus (intro W hSw; (try dsimp only at hSw); obtain ⟨x0, x1, x2, x3, x4, x5⟩ := HK13.out _ hSw; go_simp; try (with_reducible rfl))); (try simp only [Act.put, List.getElem_toArray, List.getElem_cons_succ, List.getElem_cons_zero, List.setIfInBounds_toArray, List.set_cons_zero, List.set_cons_succ])
                (refine wpAnyH_take (i := 12) (v := ?_) rfl (by kernel_rfl) (by kernel_rfl) (by kernel_rfl) (fun _ _ _ h => h) (Or.inl ⟨rfl, ?_⟩) (by assumption) ?_; rotate_left; focus (intro W hSw; (try dsimp only at hSw); obtain ⟨x0, x1, x2, x3, x4, x5⟩ := HK13.out _ hSw; go_simp; try (with_reducible rfl))); (try simp only [Act.put, List.getElem_toArray, List.getElem_cons_succ, List.getElem_cons_zero, List.setIfInBounds_toArray, List.set_cons_zero, List.set_cons_succ])
                (refine wpAnyH_take (i := 13) (v := ?_) rfl (by kernel_rfl) (by kernel_rfl) (by kernel_rfl) (fun _ _ _ h => h) (Or.inl ⟨rfl, ?_⟩) (by assumption) ?_; rotate_left; focus (intro W hSw; (try dsimp only at hSw); obtain ⟨x0, x1, x2, x3, x4, x5⟩ := HK13.out _ hSw; go_simp; try (with_reducible rfl))); (try simp only [Act.put, List.getElem_toArray, List.getElem_cons_succ, List.getElem_cons_zero, List.setIfInBounds_toArray, List.set_cons_zero, List.set_cons_succ])
                (refine wpAnyH_take (i := 14) (v := ?_) rfl (by kernel_rfl) (by kernel_rfl) (by kernel_rfl) (fun _ _ _ h => h) (Or.inl ⟨rfl, ?_⟩) (by assumption) ?_; rotate_left; focus (intro W hSw; (try dsimp only at hSw); obtain ⟨x0, x1, x2, x3, x4, x5⟩ := HK13.out _ hSw; go_simp; try (with_reducible rfl))); (try simp only [Act.put, List.getElem_toArray, List.getElem_cons_succ, List.getElem_cons_zero, List.setIfInBounds_toArray, List.set_cons_zero, List.set_cons_succ])
                (refine wpAnyH_take (i := 15) (v := ?_) rfl (by kernel_rfl) (by kernel_rfl) (by kernel_rfl) (fun _ _ _ h => h) (Or.inl ⟨rfl, ?_⟩) (by assumption) ?_; rotate_left; focus (intro W hSw; (try dsimp only at hSw); obtain ⟨x0, x1, x2, x3, x4, x5⟩ := HK13.out _ hSw; go_simp; try (with_reducible rfl))); (try simp only [Act.put, List.getElem_toArray, List.getElem_cons_succ, List.getElem_cons_zero, List.setIfInBounds_toArray, List.set_cons_zero, List.set_cons_succ])
                (refine wpAnyH_take (i := 16) (v := ?_) rfl (by kernel_rfl) (by kernel_rfl) (by kernel_rfl) (fun _ _ _ h => h) (Or.inl ⟨rfl, ?_⟩) (by assumption) ?_; rotate_left; focus (intro W hSw; (try dsimp only at hSw); obtain ⟨x0, x1, x2, x3, x4, x5⟩ := HK13.out _ hSw; go_simp; try (with_reducible rfl))); (try simp only [Act.put, List.getElem_toArray, List.getElem_cons_succ, List.getElem_cons_zero, List.setIfInBounds_toArray, List.set_cons_zero, List.set_cons_succ])
                (refine wpAnyH_take (i := 17) (v := ?_) rfl (by kernel_rfl) (by kernel_rfl) (by kernel_rfl) (fun _ _ _ h => h) (Or.inl ⟨rfl, ?_⟩) (by assumption) ?_; rotate_left; focus (intro W hSw; (try dsimp only at hSw); obtain ⟨x0, x1, x2, x3, x4, x5⟩ := HK13.out _ hSw; go_simp; try (with_reducible rfl))); (try simp only [Act.put, List.getElem_toArray, List.getElem_cons_succ, List.getElem_cons_zero, List.setIfInBounds_toArray, List.set_cons_zero, List.set_cons_succ])
                (refine wpAnyH_take (i := 18) (v := ?_) rfl (by kernel_rfl) (by kernel_rfl) (by kernel_rfl) (fun _ _ _ h => h) (Or.inl ⟨rfl, ?_⟩) (by assumption) ?_; rotate_left; focus (intro W hSw; (try dsimp only at hSw); obtain ⟨x0, x1, x2, x3, x4, x5⟩ := HK13.out _ hSw; go_simp; try (with_reducible rfl))); (try simp only [Act.put, List.getElem_toArray, List.getElem_cons_succ, List.getElem_cons_zero, List.setIfInBounds_toArray, List.set_cons_zero, List.set_cons_succ])
                (refine wpAnyH_take (i := 19) (v := ?_) rfl (by kernel_rfl) (by kernel_rfl) (by kernel_rfl) (fun _ _ _ h => h) (Or.inl ⟨rfl, ?_⟩) (by assumption) ?_; rotate_left; focus (intro W hSw; (try dsimp only at hSw); obtain ⟨x0, x1, x2, x3, x4, x5⟩ := HK13.out _ hSw; go_simp; try (with_reducible rfl))); (try simp only [Act.put, List.getElem_toArray, List.getElem_cons_succ, List.getElem_cons_zero, List.setIfInBounds_toArray, List.set_cons_zero, List.set_cons_succ])
                (refine wpAnyH_take (i := 20) (v := ?_) rfl (by kernel_rfl) (by kernel_rfl) (by kernel_rfl) (fun _ _ _ h => h) (Or.inl ⟨rfl, ?_⟩) (by assumption) ?_; rotate_left; focus (intro W hSw; (try dsimp only at hSw); obtain ⟨x0, x1, x2, x3, x4, x5⟩ := HK13.out _ hSw; go_simp; try (with_reducible rfl))); (try simp only [Act.put, List.getElem_toArray, List.getElem_cons_succ, List.getElem_cons_zero, List.setIfInBounds_toArray, List.set_cons_zero, List.set_cons_succ])
                refine wpAnyH_ready (rs := [21, 22]) (by kernel_rfl) (by simp) ?_; refine AllReadyH.cons rfl (fun K hK => ?_) (AllReadyH.cons rfl (fun K hK => ?_) AllReadyH.nil)
                · go_simp; (try simp only [nw1, nw2]); (go_at_call 72; refine (l01Plus_big (-ux) (-uy) vx vy C _ hn4 hn5 HSN.out HSV.out).mono ?_; rintro en w6 ⟨rfl, hb6⟩; have hz6 := hb6.size)
                  refine hK.out _ _ (below_after hb6 hHeld) (fun hHeld2 => ?_); clear hb6; (clear hHeld; rename _ => hHeld; clear hK K; have hHeld : Below wy.heap.size wy _ := hHeld); (try simp only [Act.put, List.getElem_toArray, List.getElem_cons_succ, List.getElem_cons_zero, List.setIfInBounds_toArray, List.set_cons_zero, List.set_cons_succ])
                  refine wpAnyH_ready (rs := [22]) (by kernel_rfl) (by simp) ?_; refine AllReadyH.cons rfl (fun K hK => ?_) AllReadyH.nil
                  go_simp
                  have le_g : wy.heap.size ≤ w6.heap.size := Below.size hHeld
                  have HG := Lib.hid (Pc.of (Pb.new w6 0 0))
                  refine hK.out _ _ (Below.alloc hHeld (Below.size hHeld) _) (fun hHeld2 => ?_); (clear hHeld; rename _ => hHeld; clear hK K; have hHeld : Below wy.heap.size wy _ := hHeld); (try simp only [Act.put, List.getElem_toArray, List.getElem_cons_succ, List.getElem_cons_zero, List.setIfInBounds_toArray, List.set_cons_zero, List.set_cons_succ])
                  obtain ⟨wg, hwx⟩ : ∃ wx, w6.alloc (.cells #[.int .i64 0, .int .i64 0] 24) = wx := ⟨_, rfl⟩
                  rw [hwx] at HG hHeld ⊢; clear hwx
                  refine wpAnyH_ready (rs := [23]) (by kernel_rfl) (by simp) ?_; refine AllReadyH.cons rfl (fun K hK => ?_) AllReadyH.nil
                  obtain ⟨u0, u1, u2, u3, u4⟩ := HG.out
                  go_simp
                  clear u0 u1 u2 u3
                  have HG := Lib.hid (HG.out.set (-ux + C * vx) (-uy + C * vy))
                  refine hK.out _ _ (Below.setCell (Below.setCell hHeld (p := ⟨w6.heap.size, 0, none⟩) le_g _) (p := ⟨w6.heap.size, 1, none⟩) le_g _) (fun hHeld2 => ?_)
                  clear u4
                  (clear hHeld; rename _ => hHeld; clear hK K; have hHeld : Below wy.heap.size wy _ := hHeld); (try simp only [Act.put, List.getElem_toArray, List.getElem_cons_succ, List.getElem_cons_zero, List.setIfInBounds_toArray, List.set_cons_zero, List.set_cons_succ])
                  refine wpAnyH_done (by kernel_rfl) ?_ _
                  go_wp2_with fail
                  go_meet
                  exact ⟨_, rfl, HG.out, le_g, hHeld⟩
                · go_simp
                  have le_g : wy.heap.size ≤ wD.heap.size := Below.size hHeld
                  have HG := Lib.hid (Pc.of (Pb.new wD 0 0))
                  refine hK.out _ _ (Below.alloc hHeld (Below.size hHeld) _) (fun hHeld2 => ?_); (clear hHeld; rename _ => hHeld; clear hK K; have hHeld : Below wy.heap.size wy _ := hHeld); (try simp only [Act.put, List.getElem_toArray, List.getElem_cons_succ, List.getElem_cons_zero, List.setIfInBounds_toArray, List.set_cons_zero, List.set_cons_succ])
                  obtain ⟨wg, hwx⟩ : ∃ wx, wD.alloc (.cells #[.int .i64 0, .int .i64 0] 24) = wx := ⟨_, rfl⟩
                  rw [hwx] at HG hHeld ⊢; clear hwx
                  refine wpAnyH_ready (rs := [21]) (by kernel_rfl) (by simp) ?_; refine AllReadyH.cons rfl (fun K hK => ?_) AllReadyH.nil
                  go_simp; (try simp only [nw1, nw2]); (go_at_call 72; refine (l01Plus_big (-ux) (-uy) vx vy C _ hn4 hn5 HSN.out HSV.out).mono ?_; rintro en w6 ⟨rfl, hb6⟩; have hz6 := hb6.size)
                  have HG := Lib.hid (HG.out.below hb6)
                  refine hK.out _ _ (below_after hb6 hHeld) (fun hHeld2 => ?_); clear hb6; (clear hHeld; rename _ => hHeld; clear hK K; have hHeld : Below wy.heap.size wy _ := hHeld); (try simp only [Act.put, List.getElem_toArray, List.getElem_cons_succ, List.getElem_cons_zero, List.setIfInBounds_toArray, List.set_cons_zero, List.set_cons_succ])
                  refine wpAnyH_ready (rs := [23]) (by kernel_rfl) (by simp) ?_; refine AllReadyH.cons rfl (fun K hK => ?_) AllReadyH.nil
                  obtain ⟨u0, u1, u2, u3, u4⟩ := HG.out
                  go_simp
                  clear u0 u1 u2 u3
                  have HG := Lib.hid (HG.out.set (-ux + C * vx) (-uy + C * vy))
                  refine hK.out _ _ (Below.setCell (Below.setCell hHeld (p := ⟨wD.heap.size, 0, none⟩) le_g _) (p := ⟨wD.heap.size, 1, none⟩) le_g _) (fun hHeld2 => ?_)
                  clear u4
                  (clear hHeld; rename _ => hHeld; clear hK K; have hHeld : Below wy.heap.size wy _ := hHeld); (try simp only [Act.put, List.getElem_toArray, List.getElem_cons_succ, List.getElem_cons_zero, List.setIfInBounds_toArray, List.set_cons_zero, List.set_cons_succ])
                  refine wpAnyH_done (by kernel_rfl) ?_ _
                  go_wp2_with fail
                  go_meet
                  exact ⟨_, rfl, HG.out, le_g, hHeld⟩
            case rest =>
              obtain ⟨G, rfl, hPG, hleG, hBz⟩ := hcut
              obtain ⟨w7, rfl⟩ : ∃ w7, w7 = wc := ⟨_, rfl⟩
              have OP7 := Lib.hid (OwnF.below HPy.out hBz)
              have ON7 := Lib.hid (OwnI.below HN5.out hBz)
              have HB7 : Hid (Below wC.heap.size wC w7) := below_after hBz HB5.out
              obtain ⟨z0, z1, z2, z3, z4⟩ := hPG
              dsimp only at z0 z1
              clear hBz
              go_wp2_with (first | (at_builtin; refine wpList_append_own_at _ rfl _ _ 27 rfl wC.heap.size 24 j0 (.agg #[.int .i64 0, .int .i64 0]) 2 16 Try.underlying27 hj jz0 jz1 jz2 rfl (by decide) _ _ _ rfl (OP7.out.alloc _) ⟨w7.heap.size, 0, none⟩ 1 1 [.int .i64 (-ux + C * vx), .int .i64 (-uy + C * vy)] rfl rfl ?c1 ?c2 ?c3 ?c4 ?c5 ?_))
              case c1 =>
                intro j u hj
                match j, hj with
                | 0, hj => simp at hj; subst hj; simp [Addr.add]
                | 1, hj => simp at hj; subst hj; simp [Addr.add]
              case c2 => intro u hu; simp at hu; rcases hu with rfl | rfl <;> rfl
              case c3 => unfold maxLen; omega
              case c4 => omega
              case c5 => have h1 := HB7.out.size; simp only [World.size_alloc]; omega
              intro v8 w8 hown8 hgrow8 hnil8 hat8
              have hnext : ((-ux + C * vx, -uy + C * vy) : Int × Int) = (C * vx - ux, C * vy - uy) := by
                refine Prod.ext ?_ ?_
                · dsimp only; omega
                · dsimp only; omega
              obtain ⟨g8, cp8, rfl⟩ := ownsRow_succ hown8
              have hP8 : OwnF wC.heap.size w8 (.slice (some ⟨g8, 0, none⟩) (n + 1) cp8) (n + 1) (flat ((pre ++ [(ux, uy)]) ++ [(vx, vy), (C * vx - ux, C * vy - uy)])) := by
                rw [← hnext]
                have e : flat ((pre ++ [(ux, uy)]) ++ [(vx, vy), (-ux + C * vx, -uy + C * vy)]) = flat (pre ++ [(ux, uy), (vx, vy)]) ++ [-ux + C * vx, -uy + C * vy] := by
                  rw [show (pre ++ [(ux, uy)]) ++ [(vx, vy), (-ux + C * vx, -uy + C * vy)] = (pre ++ [(ux, uy), (vx, vy)]) ++ [(-ux + C * vx, -uy + C * vy)] by simp, flat_append]; rfl
                rw [e]
                show World.ownsRow _ _ _ _ _ _ _
                rw [List.map_append]; exact hown8
              have hN8 : OwnI wC.heap.size w8 (.slice qa2 nl qc2) (ns ++ [C]) := by
                refine World.ownsRow.kept (ON7.out.alloc _) hgrow8 ?_
                show _ ∨ (Value.slice qa2 nl qc2).ownBlock ≠ some g
                exact .inr HAP5.out
              have hap8 : (Value.slice qa2 nl qc2).ownBlock ≠ some g8 := by
                rcases hat8 with h | h
                · have h' : some g8 = some g := h
                  rw [h']; exact HAP5.out
                · intro e
                  have h1 := (World.ownsRow.lt ON7.out g8 e).2
                  have h' : some g8 = some (w7.heap.size + 1) := h
                  simp only [World.size_alloc, Option.some.injEq] at h'
                  omega
              have hb8 : Below wC.heap.size wC w8 := Below.grown (HB7.out.alloc HB7.out.size _) hgrow8 (by have h1 := HB7.out.size; simp only [World.size_alloc]; omega) (fun k hk => (OP7.out.lt k hk).1)
              have HP8 := Lib.hid hP8
              have HN8 := Lib.hid hN8
              have HAP8 := Lib.hid hap8
              have HB8 := Lib.hid hb8
              clear hown8 hgrow8 hnil8 hat8 hnext hP8 hN8 hap8 hb8 z0 z1 z2 z3 z4
              go_wp2
              go_roundw
              case rel =>
                have hm1 := HM1.out
                have hn := HNN.out
                have hf := HF.out
                have h2 := HN2'.out
                have h0 := HN1'.out.2.1
                refine ⟨m1, m1 + 1, n + 1, g8, cp8, pre ++ [(ux, uy)], vx, vy, C * vx - ux, C * vy - uy, ns ++ [C], f, by omega, by omega, rfl, ?_, HP8.out, HN8.out, HAP8.out, HN1'.out, by omega, HSL2.out, HCS2.out, by omega, ?_, HB8.out⟩
                · rw [List.length_append, HPL.out, hm1]; rfl
                · have := HNS.out; simp; omega
              case measure => simp only []; omega
end Go.Proofs.Ytjiaokcbhpmodaa
