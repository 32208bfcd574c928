/-
  Common records of two ratios, in the program (own work).
-/
import Derived.Test.YtmjhejmkmdgikaaBeR
import Derived.Test.YtmjhejmkmdgikaaRdA
import Derived.BigRegion
import Derived.Deep.DeepCutAuto
namespace Go.Proofs.Ytmjhejmkmdgikaa
open Go.ChangeShapes Go.WideShapes Go.ChangeAt Go.RowKit
set_option linter.unusedVariables false
set_option maxRecDepth 100000
set_option linter.unusedSimpArgs false
set_option maxRecDepth 100000

def RetIC (w : World) (xs : List Int) (c : Int) (e : Ending) (w' : World) : Prop := ∃ v, e = .returned (.tuple #[v, .int .i64 c]) ∧ OwnI w.heap.size w' v xs ∧ Below w.heap.size w w'
theorem retIC_nil {w w' : World} {c : Int} (hb : Below w.heap.size w w') : RetIC w [] c (.returned (.tuple #[.slice none 0 0, .int .i64 c])) w' := ⟨_, rfl, World.ownsRow_nil _ _ _ _, hb⟩
theorem less_any (a b : Int) (w : World) : Calls Try.prog 93 #[.int .i64 a, .int .i64 b] w fun e w' => e = .returned (.bool (decide (a < b))) ∧ w = w' := by
  go_enter Try.func93, Try.ntmps93
  go_wp2_with (go_at_call 110; refine (isNaN_any _ _).mono ?_; rintro e wn ⟨rfl, rfl⟩)
  go_ret
  exact ⟨by simp, rfl⟩
def crM (p r q k : Int) : Int := max (nrM (k * p) q) (nrM (k * r) q)
set_option maxHeartbeats 1600000 in
theorem crAt_any (gp gq gr : Nat) (p q r k : Int) (w : World) (hp : Bk1 w gp p) (hq : Bk1 w gq q) (hr : Bk1 w gr r) (h1 : rtB p q 1 = true) (h2 : rtB r q 1 = true) (k1 : 1 ≤ k) (k2 : k ≤ 1000000) :
    Calls Try.prog 90 #[.int .i64 k, .pointer (some ⟨gp, 0, none⟩), .pointer (some ⟨gq, 0, none⟩), .pointer (some ⟨gr, 0, none⟩)] w fun e w' => e = .returned (.int .i64 (crM p r q k)) ∧ Below w.heap.size w w' := by
  have HA := Lib.hid (fun w => approachTo_any p q k w h1 k1 k2)
  have HC := Lib.hid (fun w => approachTo_any r q k w h2 k1 k2)
  obtain ⟨a0, _, a2⟩ := hp
  obtain ⟨b0, _, b2⟩ := hq
  obtain ⟨c0, _, c2⟩ := hr
  have HCL : Hid (∀ W, Below w.heap.size w W → W.cell? ⟨gp, 0, none⟩ = some (.int .i64 p) ∧ W.cell? ⟨gq, 0, none⟩ = some (.int .i64 q) ∧ W.cell? ⟨gr, 0, none⟩ = some (.int .i64 r)) := fun W hW => ⟨(hW.cell (p := ⟨gp, 0, none⟩) a2).trans a0, (hW.cell (p := ⟨gq, 0, none⟩) b2).trans b0, (hW.cell (p := ⟨gr, 0, none⟩) c2).trans c0⟩
  unfold apV at HA HC
  unfold crM
  generalize nrP (k * p) q = X at *
  generalize nrM (k * p) q = Y at *
  generalize nrP (k * r) q = X2 at *
  generalize nrM (k * r) q = Y2 at *
  obtain ⟨M, hM⟩ : ∃ M, max Y Y2 = M := ⟨_, rfl⟩
  have hmx := fun (W : World) (ts : Array TypeId) (t : TypeId) => run_max2 Try.prog W ts t Y Y2 M hM
  have HM := Lib.hid hM
  rw [hM]
  have hfl := fun w => fld_ap1 X k Y w
  have hfl2 := fun w => fld_ap1 X2 k Y2 w
  clear h1 h2 k1 k2 a0 b0 c0 a2 b2 c2 hM
  go_enter Try.func90, Try.ntmps90
  go_wp2_with fail
  refine wp_region_held_drew (S := fun W => Below w.heap.size w W) (by kernel_rfl) ?_ (fun hHeld => ?_); focus ((try dsimp only); exact (Below.refl _ _).drew)
  have hHeld : Below w.heap.size w _ := hHeld
  obtain ⟨wD, hwD⟩ : ∃ wD, w.drew = wD := ⟨_, rfl⟩
  rw [hwD] at hHeld ⊢
  clear hwD
  (refine wpAnyH_take (i := 0) (v := ?_) rfl (by kernel_rfl) (by kernel_rfl) (by kernel_rfl) (fun _ _ _ h => h) (Or.inl ⟨rfl, ?_⟩) (by assumption) ?_; rotate_left; focus (intro W hSw; (try dsimp only at hSw); obtain ⟨i0, i1, i2⟩ := HCL.out _ hSw; go_simp; try (with_reducible rfl))); (try simp only [Act.put, List.getElem_toArray, List.getElem_cons_succ, List.getElem_cons_zero, List.setIfInBounds_toArray, List.set_cons_zero, List.set_cons_succ])
  (refine wpAnyH_take (i := 1) (v := ?_) rfl (by kernel_rfl) (by kernel_rfl) (by kernel_rfl) (fun _ _ _ h => h) (Or.inl ⟨rfl, ?_⟩) (by assumption) ?_; rotate_left; focus (intro W hSw; (try dsimp only at hSw); obtain ⟨i0, i1, i2⟩ := HCL.out _ hSw; go_simp; try (with_reducible rfl))); (try simp only [Act.put, List.getElem_toArray, List.getElem_cons_succ, List.getElem_cons_zero, List.setIfInBounds_toArray, List.set_cons_zero, List.set_cons_succ])
  (refine wpAnyH_take (i := 2) (v := ?_) rfl (by kernel_rfl) (by kernel_rfl) (by kernel_rfl) (fun _ _ _ h => h) (Or.inl ⟨rfl, ?_⟩) (by assumption) ?_; rotate_left; focus (intro W hSw; (try dsimp only at hSw); obtain ⟨i0, i1, i2⟩ := HCL.out _ hSw; go_simp; try (with_reducible rfl))); (try simp only [Act.put, List.getElem_toArray, List.getElem_cons_succ, List.getElem_cons_zero, List.setIfInBounds_toArray, List.set_cons_zero, List.set_cons_succ])
  (refine wpAnyH_take (i := 5) (v := ?_) rfl (by kernel_rfl) (by kernel_rfl) (by kernel_rfl) (fun _ _ _ h => h) (Or.inl ⟨rfl, ?_⟩) (by assumption) ?_; rotate_left; focus (intro W hSw; (try dsimp only at hSw); obtain ⟨i0, i1, i2⟩ := HCL.out _ hSw; go_simp; try (with_reducible rfl))); (try simp only [Act.put, List.getElem_toArray, List.getElem_cons_succ, List.getElem_cons_zero, List.setIfInBounds_toArray, List.set_cons_zero, List.set_cons_succ])
  (refine wpAnyH_take (i := 6) (v := ?_) rfl (by kernel_rfl) (by kernel_rfl) (by kernel_rfl) (fun _ _ _ h => h) (Or.inl ⟨rfl, ?_⟩) (by assumption) ?_; rotate_left; focus (intro W hSw; (try dsimp only at hSw); obtain ⟨i0, i1, i2⟩ := HCL.out _ hSw; go_simp; try (with_reducible rfl))); (try simp only [Act.put, List.getElem_toArray, List.getElem_cons_succ, List.getElem_cons_zero, List.setIfInBounds_toArray, List.set_cons_zero, List.set_cons_succ])
  (refine wpAnyH_take (i := 7) (v := ?_) rfl (by kernel_rfl) (by kernel_rfl) (by kernel_rfl) (fun _ _ _ h => h) (Or.inl ⟨rfl, ?_⟩) (by assumption) ?_; rotate_left; focus (intro W hSw; (try dsimp only at hSw); obtain ⟨i0, i1, i2⟩ := HCL.out _ hSw; go_simp; try (with_reducible rfl))); (try simp only [Act.put, List.getElem_toArray, List.getElem_cons_succ, List.getElem_cons_zero, List.setIfInBounds_toArray, List.set_cons_zero, List.set_cons_succ])
  refine wpAnyH_ready (rs := [3]) (by kernel_rfl) (by simp) ?_; refine AllReadyH.cons rfl (fun K hK => ?_) AllReadyH.nil
  go_simp; (go_at_call 91; refine (HA.out _).mono ?_; rintro en yw0 ⟨rfl, hb2⟩); refine hK.out _ _ (below_after hb2 hHeld) (fun hHeld2 => ?_); clear hb2; (clear hHeld; rename _ => hHeld; clear hK K; have hHeld : Below w.heap.size w _ := hHeld); (try simp only [Act.put, List.getElem_toArray, List.getElem_cons_succ, List.getElem_cons_zero, List.setIfInBounds_toArray, List.set_cons_zero, List.set_cons_succ])
  (refine wpAnyH_take (i := 4) (v := ?_) rfl (by kernel_rfl) (by kernel_rfl) (by kernel_rfl) (fun _ _ _ h => h) (Or.inl ⟨rfl, ?_⟩) (by assumption) ?_; rotate_left; focus (intro W hSw; (try dsimp only at hSw); obtain ⟨i0, i1, i2⟩ := HCL.out _ hSw; go_simp; try (with_reducible rfl))); (try simp only [Act.put, List.getElem_toArray, List.getElem_cons_succ, List.getElem_cons_zero, List.setIfInBounds_toArray, List.set_cons_zero, List.set_cons_succ])
  refine wpAnyH_ready (rs := [8]) (by kernel_rfl) (by simp) ?_; refine AllReadyH.cons rfl (fun K hK => ?_) AllReadyH.nil
  go_simp; (go_at_call 91; refine (HC.out _).mono ?_; rintro en yw1 ⟨rfl, hb2⟩); refine hK.out _ _ (below_after hb2 hHeld) (fun hHeld2 => ?_); clear hb2; (clear hHeld; rename _ => hHeld; clear hK K; have hHeld : Below w.heap.size w _ := hHeld); (try simp only [Act.put, List.getElem_toArray, List.getElem_cons_succ, List.getElem_cons_zero, List.setIfInBounds_toArray, List.set_cons_zero, List.set_cons_succ])
  (refine wpAnyH_take (i := 9) (v := ?_) rfl (by kernel_rfl) (by kernel_rfl) (by kernel_rfl) (fun _ _ _ h => h) (Or.inl ⟨rfl, ?_⟩) (by assumption) ?_; rotate_left; focus (intro W hSw; (try dsimp only at hSw); obtain ⟨i0, i1, i2⟩ := HCL.out _ hSw; go_simp; try (with_reducible rfl))); (try simp only [Act.put, List.getElem_toArray, List.getElem_cons_succ, List.getElem_cons_zero, List.setIfInBounds_toArray, List.set_cons_zero, List.set_cons_succ])
  (refine wpAnyH_take (i := 10) (v := ?_) rfl (by kernel_rfl) (by kernel_rfl) (by kernel_rfl) (fun _ _ _ h => h) (Or.inl ⟨rfl, ?_⟩) (by assumption) ?_; rotate_left; focus (intro W hSw; (try dsimp only at hSw); obtain ⟨i0, i1, i2⟩ := HCL.out _ hSw; go_simp; try (with_reducible rfl))); (try simp only [Act.put, List.getElem_toArray, List.getElem_cons_succ, List.getElem_cons_zero, List.setIfInBounds_toArray, List.set_cons_zero, List.set_cons_succ])
  (refine wpAnyH_take (i := 11) (v := ?_) rfl (by kernel_rfl) (by kernel_rfl) (by kernel_rfl) (fun _ _ _ h => h) (Or.inl ⟨rfl, ?_⟩) (by assumption) ?_; rotate_left; focus (intro W hSw; (try dsimp only at hSw); obtain ⟨i0, i1, i2⟩ := HCL.out _ hSw; go_simp; try (with_reducible rfl))); (try simp only [Act.put, List.getElem_toArray, List.getElem_cons_succ, List.getElem_cons_zero, List.setIfInBounds_toArray, List.set_cons_zero, List.set_cons_succ])
  refine wpAnyH_done (by kernel_rfl) ?_ _
  go_wp2_with fail
  go_ret
  exact ⟨by first | rfl | (simp [HM.out]; done) | simp, hHeld⟩
theorem crM_bt (p r q k l : Int) : btC p r q k l = decide (crM p r q k < crM p r q l) := rfl
set_option maxHeartbeats 4000000 in
theorem recI_any (gp gq gr : Nat) (p r q n : Int) (w : World) (hp : Bk1 w gp p) (hq : Bk1 w gq q) (hr : Bk1 w gr r) (h1 : rtB p q 1 = true) (h2 : rtB r q 1 = true) (n1 : 1 ≤ n) (n2 : n ≤ 100000) :
    Calls Try.prog 92 #[.int .i64 n, .func (.func 90) #[] #[.pointer (some ⟨gp, 0, none⟩), .pointer (some ⟨gq, 0, none⟩), .pointer (some ⟨gr, 0, none⟩)], .func (.func 93) #[] #[]] w (RetI w (rcS (btC p r q) (n.toNat - 1)).1) := by
  have HV : Hid (∀ W k, Below w.heap.size w W → 1 ≤ k → k ≤ 1000000 → Calls Try.prog 90 #[.int .i64 k, .pointer (some ⟨gp, 0, none⟩), .pointer (some ⟨gq, 0, none⟩), .pointer (some ⟨gr, 0, none⟩)] W fun e w' => e = .returned (.int .i64 (crM p r q k)) ∧ Below W.heap.size W w') := fun W k hW k1 k2 => crAt_any gp gq gr p q r k W (hp.below hW) (hq.below hW) (hr.below hW) h1 h2 k1 k2
  have HS1 := Lib.hid (fun j => rcS_len (bt := btC p r q) j)
  have HF := Lib.hid n1
  clear hp hq hr h1 h2
  obtain ⟨w0, hw0⟩ : ∃ w0, w0 = w.alloc (.cells #[.int .i64 1] 2) := ⟨_, rfl⟩
  have HL : Hid (OwnI w.heap.size w0 (.slice (some ⟨w.heap.size, 0, none⟩) [(1 : Int)].length 1) [1]) := by
    show OwnI _ _ _ _
    rw [hw0]
    exact World.ownsRow_lit w #[.int .i64 1] 1 (Nat.le_refl _) (by decide) rfl
  have HB : Hid (Below w.heap.size w w0) := by show Below w.heap.size w w0; rw [hw0]; (repeat' (first | (with_reducible exact Below.refl _ _) | (with_reducible refine Below.alloc ?_ ?_ _) | (with_reducible refine Below.setCell ?_ ?_ _) | (with_reducible refine Below.drew ?_) | (with_reducible refine below_drewN ?_ _) | (with_reducible assumption) | (with_reducible refine below_after (by with_reducible assumption) ?_) | go_size))
  go_enter Try.func92, Try.ntmps92
  go_wp2_with fail
  rw [← hw0]
  clear hw0
  go_at_call 90
  refine (HV.out _ 1 HB.out (by omega) (by omega)).mono ?_
  rintro e w1 ⟨rfl, hb⟩
  have HL := Lib.hid (HL.out.below hb)
  have HB := Lib.hid (below_after hb HB.out)
  clear hb
  go_wp2_with fail
  go_loopw [7, 8, 9] (fun rv ev kv wr => ∃ (j : Nat) (L : List Int) (l : Int) (va : Option Addr) (vc : Nat), rcS (btC p r q) j = (L, l) ∧ rv = .slice va L.length vc ∧ ev = .int .i64 (crM p r q l) ∧ kv = .int .i64 ((j : Int) + 2) ∧ (j : Int) + 1 ≤ n ∧ OwnI w.heap.size wr (.slice va L.length vc) L ∧ Below w.heap.size w wr) (fun _ _ kv _ => (n + 1 - intOf kv).toNat)
  case atStart => exact ⟨0, [1], 1, _, _, rfl, rfl, rfl, by go_num, by have := HF.out; omega, HL.out, HB.out⟩
  case round =>
    obtain ⟨j, L, l, va, vc, hj, rfl, rfl, rfl, hjn, hl, hbel⟩ := hrel
    clear HL HB
    have HL := Lib.hid hl
    have HB := Lib.hid hbel
    have HJ := Lib.hid hj
    have hl1 := HS1.out j
    rw [hj] at hl1
    dsimp only at hl1
    have HLL := Lib.hid hl1
    clear hl hbel hj hl1
    by_cases hlt : (j : Int) + 2 ≤ n
    · have HVK : Hid (Calls Try.prog 90 #[.int .i64 ((j : Int) + 2), .pointer (some ⟨gp, 0, none⟩), .pointer (some ⟨gq, 0, none⟩), .pointer (some ⟨gr, 0, none⟩)] wr fun e w' => e = .returned (.int .i64 (crM p r q ((j : Int) + 2))) ∧ Below wr.heap.size wr w') := HV.out wr _ HB.out (by omega) (by omega)
      have HBT := Lib.hid (crM_bt p r q ((j : Int) + 2) l)
      obtain ⟨E, hE⟩ : ∃ E, crM p r q ((j : Int) + 2) = E := ⟨_, rfl⟩
      obtain ⟨F, hF⟩ : ∃ E, crM p r q l = E := ⟨_, rfl⟩
      rw [hE] at HVK HBT
      rw [hF] at HBT ⊢
      have HE := Lib.hid hE
      have HFF := Lib.hid hF
      clear hE hF
      go_wp2_with fail
      go_at_call 90
      refine HVK.out.mono ?_
      rintro e w2 ⟨rfl, hb⟩
      have HL2 := Lib.hid (HL.out.below hb)
      have HB2 := Lib.hid (below_after hb HB.out)
      have hs2 := HB2.out.size
      clear hb HVK
      by_cases hc : E < F
      · have HN : Hid (rcS (btC p r q) (j + 1) = (L ++ [(j : Int) + 2], (j : Int) + 2)) := by
          have := rcS_yes (bt := btC p r q) (n := j) (by rw [HJ.out, HBT.out]; simpa using hc)
          rw [HJ.out] at this
          exact this
        have HBX := Lib.hid (HB2.out.alloc hs2 (.cells #[.int .i64 ((j : Int) + 2)] 2))
        go_wp2_with (first | (go_at_call 93; refine (less_any _ _ _).mono ?_; rintro e wn ⟨rfl, rfl⟩) | (at_builtin; refine wpList_app_I w (g := w2.heap.size) (y := (j : Int) + 2) rfl _ _ rfl (World.ownsRow.alloc HL2.out _) (by go_cell) HBX.out rfl rfl (by have := HLL.out; omega) ?_; intro v' w4 hO4 hB4; have hO4 := Lib.hid hO4; have hB4 := Lib.hid hB4; obtain ⟨va', vc', rfl, _⟩ := own_view hO4.out))
        go_roundw
        case rel => exact ⟨j + 1, L ++ [(j : Int) + 2], (j : Int) + 2, va', vc', HN.out, by first | rfl | simp, by rw [HE.out], by go_num, by omega, hO4.out, hB4.out⟩
        case measure => simp only [intOf]; omega
      · have HN : Hid (rcS (btC p r q) (j + 1) = (L, l)) := by
          have := rcS_no (bt := btC p r q) (n := j) (by rw [HJ.out, HBT.out]; simpa using hc)
          rw [HJ.out] at this
          exact this
        go_wp2_with (first | (go_at_call 93; refine (less_any _ _ _).mono ?_; rintro e wn ⟨rfl, rfl⟩))
        go_roundw
        case rel => exact ⟨j + 1, L, l, va, vc, HN.out, rfl, by rw [HFF.out], by go_num, by omega, HL2.out, HB2.out⟩
        case measure => simp only [intOf]; omega
    · have hjn2 : n.toNat - 1 = j := by omega
      have he : (rcS (btC p r q) (n.toNat - 1)).1 = L := by rw [hjn2, HJ.out]
      go_wp2_with fail
      go_ret
      exact ⟨_, rfl, by first | (rw [he]; exact HL.out) | (rw [HJ.out]; exact HL.out), HB.out⟩
def crL (p r q n : Int) : List Int := if rtB p q 1 = true then (if rtB r q 1 = true then (if inB n 1 100000 = true then (rcS (btC p r q) (n.toNat - 1)).1 else []) else []) else []
def crC (p r q n : Int) : Int := if rtB p q 1 = true then (if rtB r q 1 = true then (if inB n 1 100000 = true then 0 else 2) else 2) else 2
theorem crL_len (p r q n : Int) : (crL p r q n).length ≤ 100000 := by
  unfold crL
  split
  · split
    · split
      · next h =>
        have := inB_iff.1 h
        have := (rcS_len (bt := btC p r q) (n.toNat - 1)).2
        omega
      · simp
    · simp
  · simp
set_option maxHeartbeats 4000000 in
theorem impl_CommonRecords_any (p r q n : Int) (w : World) : Calls Try.prog 53 #[.int .i64 p, .int .i64 r, .int .i64 q, .int .i64 n] w (RetIC w (crL p r q n) (crC p r q n)) := by
  unfold crL crC
  cases h1 : rtB p q 1
  · rw [if_neg (by decide), if_neg (by decide)]
    have hs20 : w.heap.size < w.heap.size + 1 + 1 := (by omega); have hs30 : w.heap.size < w.heap.size + 1 + 1 + 1 := (by omega); have hs31 : w.heap.size + 1 < w.heap.size + 1 + 1 + 1 := (by omega)
    go_enter Try.func53, Try.ntmps53
    go_wp2_with (first | (go_at_call 60; refine (isRatio_any _ _ _).mono ?_; rintro e wn ⟨rfl, rfl⟩) | (go_at_call 74; refine (isUpTo_any _ _ _).mono ?_; rintro e wn ⟨rfl, rfl⟩))
    refine bodyPost_ret (v := .tuple #[.slice none 0 0, .int .i64 2]) (by simp (maxDischargeDepth := 8) [results, Try.results53, go_sem, *]) rfl ?_
    exact retIC_nil (by (repeat' (first | (with_reducible exact Below.refl _ _) | (with_reducible refine Below.alloc ?_ ?_ _) | (with_reducible refine Below.setCell ?_ ?_ _) | (with_reducible refine Below.drew ?_) | (with_reducible refine below_drewN ?_ _) | (with_reducible assumption) | (with_reducible refine below_after (by with_reducible assumption) ?_) | go_size)))
  · rw [if_pos rfl, if_pos rfl]
    cases h2 : rtB r q 1
    · rw [if_neg (by decide), if_neg (by decide)]
      have hs20 : w.heap.size < w.heap.size + 1 + 1 := (by omega); have hs30 : w.heap.size < w.heap.size + 1 + 1 + 1 := (by omega); have hs31 : w.heap.size + 1 < w.heap.size + 1 + 1 + 1 := (by omega)
      go_enter Try.func53, Try.ntmps53
      go_wp2_with (first | (go_at_call 60; refine (isRatio_any _ _ _).mono ?_; rintro e wn ⟨rfl, rfl⟩) | (go_at_call 74; refine (isUpTo_any _ _ _).mono ?_; rintro e wn ⟨rfl, rfl⟩))
      refine bodyPost_ret (v := .tuple #[.slice none 0 0, .int .i64 2]) (by simp (maxDischargeDepth := 8) [results, Try.results53, go_sem, *]) rfl ?_
      exact retIC_nil (by (repeat' (first | (with_reducible exact Below.refl _ _) | (with_reducible refine Below.alloc ?_ ?_ _) | (with_reducible refine Below.setCell ?_ ?_ _) | (with_reducible refine Below.drew ?_) | (with_reducible refine below_drewN ?_ _) | (with_reducible assumption) | (with_reducible refine below_after (by with_reducible assumption) ?_) | go_size)))
    · rw [if_pos rfl, if_pos rfl]
      cases h3 : inB n 1 100000
      · rw [if_neg (by decide), if_neg (by decide)]
        have hs20 : w.heap.size < w.heap.size + 1 + 1 := (by omega); have hs30 : w.heap.size < w.heap.size + 1 + 1 + 1 := (by omega); have hs31 : w.heap.size + 1 < w.heap.size + 1 + 1 + 1 := (by omega)
        go_enter Try.func53, Try.ntmps53
        go_wp2_with (first | (go_at_call 60; refine (isRatio_any _ _ _).mono ?_; rintro e wn ⟨rfl, rfl⟩) | (go_at_call 74; refine (isUpTo_any _ _ _).mono ?_; rintro e wn ⟨rfl, rfl⟩))
        refine bodyPost_ret (v := .tuple #[.slice none 0 0, .int .i64 2]) (by simp (maxDischargeDepth := 8) [results, Try.results53, go_sem, *]) rfl ?_
        exact retIC_nil (by (repeat' (first | (with_reducible exact Below.refl _ _) | (with_reducible refine Below.alloc ?_ ?_ _) | (with_reducible refine Below.setCell ?_ ?_ _) | (with_reducible refine Below.drew ?_) | (with_reducible refine below_drewN ?_ _) | (with_reducible assumption) | (with_reducible refine below_after (by with_reducible assumption) ?_) | go_size)))
      · rw [if_pos rfl, if_pos rfl]
        obtain ⟨n1, n2⟩ := inB_iff.1 h3
        have HRC : Hid (∀ GP GQ GR W, Bk1 W GP p → Bk1 W GQ q → Bk1 W GR r → Calls Try.prog 92 #[.int .i64 n, .func (.func 90) #[] #[.pointer (some ⟨GP, 0, none⟩), .pointer (some ⟨GQ, 0, none⟩), .pointer (some ⟨GR, 0, none⟩)], .func (.func 93) #[] #[]] W (RetI W (rcS (btC p r q) (n.toNat - 1)).1)) := fun GP GQ GR W hp hq hr => recI_any GP GQ GR p r q n W hp hq hr h1 h2 n1 n2
        obtain ⟨L, hL⟩ : ∃ L, (rcS (btC p r q) (n.toNat - 1)).1 = L := ⟨_, rfl⟩
        rw [hL] at HRC ⊢
        clear hL
        obtain ⟨GP, hG⟩ : ∃ G, w.heap.size = G := ⟨_, rfl⟩
        have HG := Lib.hid hG
        go_enter Try.func53, Try.ntmps53
        go_upto_region 1 with fail
        obtain ⟨w0, hw0⟩ : ∃ w0, w0 = (((w.alloc (.cells #[.int .i64 p] 2)).alloc (.cells #[.int .i64 r] 2)).alloc (.cells #[.int .i64 q] 2)) := ⟨_, rfl⟩
        rw [← hw0]
        have HP : Hid (Bk1 w0 GP p) := by
          have h := (bk1_new w p 2).below (W' := (((w.alloc (.cells #[.int .i64 p] 2)).alloc (.cells #[.int .i64 r] 2)).alloc (.cells #[.int .i64 q] 2))) (by (repeat' (first | (with_reducible exact Below.refl _ _) | (with_reducible refine Below.alloc ?_ ?_ _) | (with_reducible refine Below.setCell ?_ ?_ _) | (with_reducible refine Below.drew ?_) | (with_reducible refine below_drewN ?_ _) | (with_reducible assumption) | (with_reducible refine below_after (by with_reducible assumption) ?_) | go_size)))
          (try simp only [World.size_alloc] at h)
          rw [hG] at h
          rw [hw0]; exact h
        have HR : Hid (Bk1 w0 (GP + 1) r) := by
          have h := (bk1_new (w.alloc (.cells #[.int .i64 p] 2)) r 2).below (W' := (((w.alloc (.cells #[.int .i64 p] 2)).alloc (.cells #[.int .i64 r] 2)).alloc (.cells #[.int .i64 q] 2))) (by (repeat' (first | (with_reducible exact Below.refl _ _) | (with_reducible refine Below.alloc ?_ ?_ _) | (with_reducible refine Below.setCell ?_ ?_ _) | (with_reducible refine Below.drew ?_) | (with_reducible refine below_drewN ?_ _) | (with_reducible assumption) | (with_reducible refine below_after (by with_reducible assumption) ?_) | go_size)))
          (try simp only [World.size_alloc] at h)
          rw [hG] at h
          rw [hw0]; exact h
        have HQ : Hid (Bk1 w0 (GP + 1 + 1) q) := by
          have h := (bk1_new ((w.alloc (.cells #[.int .i64 p] 2)).alloc (.cells #[.int .i64 r] 2)) q 2).below (W' := (((w.alloc (.cells #[.int .i64 p] 2)).alloc (.cells #[.int .i64 r] 2)).alloc (.cells #[.int .i64 q] 2))) (by (repeat' (first | (with_reducible exact Below.refl _ _) | (with_reducible refine Below.alloc ?_ ?_ _) | (with_reducible refine Below.setCell ?_ ?_ _) | (with_reducible refine Below.drew ?_) | (with_reducible refine below_drewN ?_ _) | (with_reducible assumption) | (with_reducible refine below_after (by with_reducible assumption) ?_) | go_size)))
          (try simp only [World.size_alloc] at h)
          rw [hG] at h
          rw [hw0]; exact h
        have HB : Hid (Below w.heap.size w w0) := by show Below w.heap.size w w0; rw [hw0]; (repeat' (first | (with_reducible exact Below.refl _ _) | (with_reducible refine Below.alloc ?_ ?_ _) | (with_reducible refine Below.setCell ?_ ?_ _) | (with_reducible refine Below.drew ?_) | (with_reducible refine below_drewN ?_ _) | (with_reducible assumption) | (with_reducible refine below_after (by with_reducible assumption) ?_) | go_size))
        clear hw0
        obtain ⟨GQ, hGQ⟩ : ∃ g, GP + 1 + 1 = g := ⟨_, rfl⟩
        rw [hGQ] at HQ ⊢
        obtain ⟨GR, hGR⟩ : ∃ g, GP + 1 = g := ⟨_, rfl⟩
        rw [hGR] at HR ⊢
        have le_P : w.heap.size ≤ GP := by omega
        have le_R : w.heap.size ≤ GR := by omega
        have ne_R_P : GR ≠ GP := by omega
        have ne_P_R : GP ≠ GR := by omega
        have le_Q : w.heap.size ≤ GQ := by omega
        have ne_Q_P : GQ ≠ GP := by omega
        have ne_P_Q : GP ≠ GQ := by omega
        have ne_Q_R : GQ ≠ GR := by omega
        have ne_R_Q : GR ≠ GQ := by omega
        clear hGR hGQ
        obtain ⟨qP0, fP0, zP⟩ := HP.out
        obtain ⟨qR0, fR0, zR⟩ := HR.out
        obtain ⟨qQ0, fQ0, zQ⟩ := HQ.out
        go_wp2_with (first | (go_at_call 60; refine (isRatio_any _ _ _).mono ?_; rintro e wn ⟨rfl, rfl⟩) | (go_at_call 74; refine (isUpTo_any _ _ _).mono ?_; rintro e wn ⟨rfl, rfl⟩))
        go_at_call 92
        refine (HRC.out _ _ _ _ HP.out HQ.out HR.out).mono ?_
        rintro e w1 ⟨v, rfl, ho, hb⟩
        have hsz := HB.out.size
        go_wp2_with fail
        refine bodyPost_ret (v := .tuple #[v, .int .i64 0]) (by simp (maxDischargeDepth := 8) [results, Try.results53, go_sem, *]) rfl ?_
        exact ⟨v, rfl, own_up ho hsz, below_after hb HB.out⟩
end Go.Proofs.Ytmjhejmkmdgikaa
