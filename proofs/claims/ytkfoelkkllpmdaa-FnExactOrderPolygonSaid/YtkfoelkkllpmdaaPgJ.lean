/-
  The way around points, as the program goes it (own work).
-/
import Derived.Test.YtkfoelkkllpmdaaPgZ
import Derived.Test.YtkfoelkkllpmdaaPoJ
import Derived.Test.YtkfoelkkllpmdaaPgG
namespace Go.Proofs.Ytkfoelkkllpmdaa
open Go.ChangeShapes Go.WideShapes Go.ChangeAt Go.RowKit
set_option linter.unusedVariables false
set_option maxRecDepth 100000
set_option linter.unusedSimpArgs false
set_option maxRecDepth 100000

def hF (L : List (Int × Int)) : Int × Int := lmin L (L.getD 0 (0, 0))
def hlP (L : List (Int × Int)) : Nat := clo (hF L) (hsq L (hF L)) 12 1
def slLen : Value → Nat
  | .slice _ n _ => n
  | _ => 0
theorem getD_in {L : List (Int × Int)} {k : Nat} (h : k < L.length) : L.getD k (0, 0) ∈ L := by
  rw [List.getD_eq_getElem?_getD, List.getElem?_eq_getElem h]; exact List.getElem_mem h
theorem hF_in {L : List (Int × Int)} (h : 1 ≤ L.length) : hF L ∈ L := by
  rcases (lmin_ok L (L.getD 0 (0, 0))).1 with e | e
  · unfold hF; rw [e]; exact getD_in (by omega)
  · exact e
theorem hF_min (L : List (Int × Int)) : ∀ c, c ∈ L → lxlt c (hF L) = false := (lmin_ok L (L.getD 0 (0, 0))).2.2
theorem clo_go (f : Int × Int) (h : Nat → Int × Int) {k : Nat} (hk : k ≤ 12) : clo f h (13 - k) k = if h k = f then k else clo f h (13 - (k + 1)) (k + 1) := by
  rw [show 13 - k = (13 - (k + 1)) + 1 from by omega]
  rfl
theorem beq_pt (a b : Int × Int) : (a.1 == b.1 && a.2 == b.2) = decide (a = b) := by
  by_cases h : a = b
  · subst h; simp
  · rw [decide_eq_false h]
    cases hq : (a.1 == b.1 && a.2 == b.2)
    · rfl
    · simp only [Bool.and_eq_true, beq_iff_eq] at hq
      exact absurd (Prod.ext hq.1 hq.2) h
set_option maxHeartbeats 8000000 in
theorem hullOf_any (g n cap : Nat) (L : List (Int × Int)) (w : World) (h1 : 1 ≤ n) (hn : L.length = n) (hm : n ≤ 140737488351232) (hg : g < w.heap.size) (hc : PtCells w g 0 L) (hpt : ∀ k, k < n → isPt (L.getD k (0, 0)) = true) :
    Calls Try.prog 59 #[.slice (some ⟨g, 0, none⟩) n cap] w (RetP w (hlP L) (flat (lst (hsq L (hF L)) (hlP L)))) := by
  have HC := Lib.hid hc
  have HN := Lib.hid hn
  have HG := Lib.hid hg
  have HPT := Lib.hid hpt
  have hin : ∀ k, hsq L (hF L) k ∈ L := fun k => (hsq_ok (hF_in (by omega)) (hF_min L) k).1
  have HPH : Hid (∀ k, isPt (hsq L (hF L) k) = true) := fun k => by
    obtain ⟨i, hi, e⟩ := List.mem_iff_getElem.1 (hin k)
    have := hpt i (by omega)
    rw [List.getD_eq_getElem?_getD, List.getElem?_eq_getElem hi] at this
    rw [← e]; exact this
  have H0 : hsq L (hF L) 0 = hF L := rfl
  have HSQ : Hid (∀ k, pnx L (hsq L (hF L) k) = hsq L (hF L) (k + 1)) := fun k => rfl
  have hmn : mnL L n = hF L := by rw [← hn]; exact mnL_all L
  unfold hlP
  obtain ⟨F, hF⟩ : ∃ F, hF L = F := ⟨_, rfl⟩
  obtain ⟨h, hh⟩ : ∃ h, hsq L F = h := ⟨_, rfl⟩
  rw [hF, hh] at HPH H0 HSQ
  rw [hF] at hmn
  rw [hF, hh]
  obtain ⟨F0, F1⟩ := F
  obtain ⟨M, hM⟩ : ∃ M, clo (F0, F1) h 12 1 = M := ⟨_, rfl⟩
  have HM1 : Hid (clo (F0, F1) h (13 - 1) 1 = M) := hM
  rw [hM]
  have HH0 := Lib.hid H0
  have HMN : Hid (∀ w, Below w.heap.size w w → PtCells w g 0 L → g < w.heap.size → Calls Try.prog 102 #[.slice (some ⟨g, 0, none⟩) n cap, .func (.func 103) #[] #[]] w fun e w' => e = .returned (.agg #[.int .i64 F0, .int .i64 F1]) ∧ Below w.heap.size w w') := fun w _ hc hg => by
    have := minP_any g n cap L w h1 hn hm hg hc
    rwa [hmn] at this
  have HNX : Hid (∀ w k x0 x1 y0 y1, PtCells w g 0 L → g < w.heap.size → h k = (x0, x1) → h (k + 1) = (y0, y1) → Calls Try.prog 104 #[.slice (some ⟨g, 0, none⟩) n cap, .agg #[.int .i64 x0, .int .i64 x1]] w fun e w' => e = .returned (.agg #[.int .i64 y0, .int .i64 y1]) ∧ Below w.heap.size w w') := fun w k x0 x1 y0 y1 hc hg e0 e1 => by
    have := nextOnHull_any g n cap L x0 x1 w hn hm hg hc HPT.out (by rw [← e0]; exact HPH.out k)
    rwa [← e0, HSQ.out k, e1] at this
  have q0 : ¬ n = 0 := by omega
  have q1 : ¬ (n : Int) = 0 := by omega
  clear hh hF hin hmn H0 hM hpt hn hc
  go_enter Try.func59, Try.ntmps59
  go_wp2_with (go_at_call 102; refine (HMN.out _ (Below.refl _ _) HC.out HG.out).mono ?_; rintro e w1 ⟨rfl, hb1⟩)
  have HB1 := Lib.hid hb1
  have hs1 := hb1.size
  clear hb1
  go_loopw [3] (fun t3 wr => ∃ (k : Nat) (va : Option Addr) (vc : Nat), t3 = .slice va (k + 1) vc ∧ k + 1 ≤ 13 ∧ clo (F0, F1) h (13 - (k + 1)) (k + 1) = M ∧ OwnF w.heap.size wr (.slice va (k + 1) vc) (k + 1) (flat (lst h (k + 1))) ∧ Below w.heap.size w wr) (fun t3 _ => 13 - slLen t3)
  case atStart =>
    refine ⟨0, some ⟨w1.heap.size, 0, none⟩, 1, rfl, by omega, HM1.out, ?_, HB1.out.alloc hs1 _⟩
    rw [show flat (lst h 1) = [F0, F1] from by simp [lst, flat, HH0.out]]
    exact World.ownsRow_lit w1 #[.int .i64 F0, .int .i64 F1] 1 hs1 (by unfold maxLen; omega) rfl
  case round =>
    obtain ⟨k, va, vc, rfl, hk, hcl, hO, hB⟩ := hrel
    have HO := Lib.hid hO
    have HBr := Lib.hid hB
    have hsr := hB.size
    obtain ⟨xa, xc, hsl, hv⟩ := own_viewF hO
    obtain ⟨rfl, rfl⟩ : va = xa ∧ vc = xc := by simpa using hsl
    obtain ⟨gv, rfl, hgv, hgl, hcv, _⟩ := hv (by omega)
    have fa := fun i => flat_at (lst h (k + 1)) i
    by_cases hkm : k + 1 ≤ 12
    · have HGO := Lib.hid (clo_go (F0, F1) h hkm)
      have v0 := hcv 0 (by omega)
      have v1 := hcv 1 (by omega)
      have u0 := hcv (k * 2) (by omega)
      have u1 := hcv (k * 2 + 1) (by omega)
      have f0 := fa 0
      rw [Nat.zero_mul, Nat.zero_add, lst_get h (by omega), HH0.out] at f0
      have fk := fa k
      rw [lst_get h (by omega)] at fk
      rw [f0.1] at v0
      rw [f0.2] at v1
      rw [fk.1] at u0
      rw [fk.2] at u1
      obtain ⟨X0, X1, hX⟩ : ∃ x y, h k = (x, y) := ⟨_, _, rfl⟩
      obtain ⟨Y0, Y1, hY⟩ : ∃ x y, h (k + 1) = (x, y) := ⟨_, _, rfl⟩
      have HSN := Lib.hid (lst_snoc h (k + 1))
      have HNXk : Hid (∀ w, PtCells w g 0 L → g < w.heap.size → Calls Try.prog 104 #[.slice (some ⟨g, 0, none⟩) n cap, .agg #[.int .i64 X0, .int .i64 X1]] w fun e w' => e = .returned (.agg #[.int .i64 Y0, .int .i64 Y1]) ∧ Below w.heap.size w w') := fun w hc hg => HNX.out w k X0 X1 Y0 Y1 hc hg hX hY
      rw [hX] at u0 u1
      rw [hY] at HSN HGO
      dsimp only at u0 u1 v0 v1
      have qk : IntKind.i64.wrap ((k : Int) + 1 - 1) = (k : Int) := by rw [IntKind.wrap_i64]; omega
      have qk2 : (k : Int) + 1 - 1 = (k : Int) := by omega
      have q2 : (0 : Int) ≤ (k : Int) := by omega
      have q3 : (k : Int) < (k : Int) + 1 := by omega
      have q4 : (k : Int) + 1 ≤ 12 := by omega
      have HCK := Lib.hid (ptCells_kept HC.out (hB.block g HG.out))
      have HGr : Hid (g < wr.heap.size) := by have := HG.out; show g < wr.heap.size; omega
      clear hX hY fa f0 fk hcv hsl hv hO hB
      go_wp2_with (go_at_call 104; refine (HNXk.out _ HCK.out HGr.out).mono ?_; rintro e w2 ⟨rfl, hb2⟩)
      have z2 := hb2.size
      obtain ⟨w3, hw3⟩ : ∃ w3, w3 = w2.alloc (.cells #[.int .i64 Y0, .int .i64 Y1] 38) := ⟨_, rfl⟩
      rw [← hw3]
      have HB3 : Hid (Below wr.heap.size wr w3) := by
        show Below wr.heap.size wr w3
        rw [hw3]; (repeat' (first | (with_reducible exact Below.refl _ _) | (with_reducible refine Below.alloc ?_ ?_ _) | (with_reducible refine Below.setCell ?_ ?_ _) | (with_reducible refine Below.drew ?_) | (with_reducible refine below_drewN ?_ _) | (with_reducible assumption) | (with_reducible refine below_after (by with_reducible assumption) ?_) | go_size))
      have HY3 : Hid (Bk2 w3 w2.heap.size Y0 Y1) := by show Bk2 w3 w2.heap.size Y0 Y1; rw [hw3]; exact bk2_new w2 Y0 Y1 _
      have HC3 : Hid (∀ W, Below w3.heap.size w3 W → W.cell? ⟨w2.heap.size, 0, none⟩ = some (.int .i64 Y0) ∧ W.cell? ⟨w2.heap.size, 1, none⟩ = some (.int .i64 Y1) ∧ W.cell? ⟨gv, 0, none⟩ = some (.int .i64 F0) ∧ W.cell? ⟨gv, 1, none⟩ = some (.int .i64 F1)) := fun W hW => by
        have p := HY3.out.below hW
        have q := below_after hW HB3.out
        exact ⟨p.1.1, p.1.2, (q.cell (p := ⟨gv, 0, none⟩) hgl).trans v0, (q.cell (p := ⟨gv, 1, none⟩) hgl).trans v1⟩
      clear hw3 hb2 v0 v1 u0 u1
      go_cut [26] (fun v wx => v = .bool (Y0 == F0 && Y1 == F1) ∧ Below w3.heap.size w3 wx)
      case first =>
        refine wp_region_held_drew (S := fun W => Below w3.heap.size w3 W) (by kernel_rfl) ?_ (fun hHeld => ?_); focus ((try dsimp only); exact (Below.refl _ _).drew)
        have hHeld : Below w3.heap.size w3 _ := hHeld
        obtain ⟨wD, hwD⟩ : ∃ wD, w3.drew = wD := ⟨_, rfl⟩
        rw [hwD] at hHeld ⊢
        clear hwD
        (refine wpAnyH_take (i := 0) (v := ?_) rfl (by kernel_rfl) (by kernel_rfl) (by kernel_rfl) (fun _ _ _ h => h) (Or.inl ⟨rfl, ?_⟩) (by assumption) ?_; rotate_left; focus (intro W hSw; (try dsimp only at hSw); obtain ⟨i0, i1, i2, i3⟩ := HC3.out _ hSw; go_simp; try (with_reducible rfl))); (try simp only [Act.put, List.getElem_toArray, List.getElem_cons_succ, List.getElem_cons_zero, List.setIfInBounds_toArray, List.set_cons_zero, List.set_cons_succ])
        (refine wpAnyH_take (i := 1) (v := ?_) rfl (by kernel_rfl) (by kernel_rfl) (by kernel_rfl) (fun _ _ _ h => h) (Or.inl ⟨rfl, ?_⟩) (by assumption) ?_; rotate_left; focus (intro W hSw; (try dsimp only at hSw); obtain ⟨i0, i1, i2, i3⟩ := HC3.out _ hSw; go_simp; try (with_reducible rfl))); (try simp only [Act.put, List.getElem_toArray, List.getElem_cons_succ, List.getElem_cons_zero, List.setIfInBounds_toArray, List.set_cons_zero, List.set_cons_succ])
        (refine wpAnyH_take (i := 2) (v := ?_) rfl (by kernel_rfl) (by kernel_rfl) (by kernel_rfl) (fun _ _ _ h => h) (Or.inl ⟨rfl, ?_⟩) (by assumption) ?_; rotate_left; focus (intro W hSw; (try dsimp only at hSw); obtain ⟨i0, i1, i2, i3⟩ := HC3.out _ hSw; go_simp; try (with_reducible rfl))); (try simp only [Act.put, List.getElem_toArray, List.getElem_cons_succ, List.getElem_cons_zero, List.setIfInBounds_toArray, List.set_cons_zero, List.set_cons_succ])
        (refine wpAnyH_take (i := 3) (v := ?_) rfl (by kernel_rfl) (by kernel_rfl) (by kernel_rfl) (fun _ _ _ h => h) (Or.inl ⟨rfl, ?_⟩) (by assumption) ?_; rotate_left; focus (intro W hSw; (try dsimp only at hSw); obtain ⟨i0, i1, i2, i3⟩ := HC3.out _ hSw; go_simp; try (with_reducible rfl))); (try simp only [Act.put, List.getElem_toArray, List.getElem_cons_succ, List.getElem_cons_zero, List.setIfInBounds_toArray, List.set_cons_zero, List.set_cons_succ])
        (refine wpAnyH_take (i := 4) (v := ?_) rfl (by kernel_rfl) (by kernel_rfl) (by kernel_rfl) (fun _ _ _ h => h) (Or.inl ⟨rfl, ?_⟩) (by assumption) ?_; rotate_left; focus (intro W hSw; (try dsimp only at hSw); obtain ⟨i0, i1, i2, i3⟩ := HC3.out _ hSw; have eqq := eq_pt Y0 Y1 F0 F1 W; go_simp; (try rw [eqq]); go_simp; try (with_reducible rfl))); (try simp only [Act.put, List.getElem_toArray, List.getElem_cons_succ, List.getElem_cons_zero, List.setIfInBounds_toArray, List.set_cons_zero, List.set_cons_succ])
        refine wpAnyH_done (by kernel_rfl) ?_ _
        go_wp2_with fail
        go_meet
        exact ⟨rfl, hHeld⟩
      case rest =>
        obtain ⟨rfl, hBx⟩ := hcut
        obtain ⟨w4, rfl⟩ : ∃ w2, w2 = wc := ⟨_, rfl⟩
        have HB4 := Lib.hid (below_after hBx HB3.out)
        have HO4 := Lib.hid (HO.out.below HB4.out)
        have HW4 := Lib.hid (below_after HB4.out HBr.out)
        have HY4 := Lib.hid (HY3.out.below hBx)
        have hs4 := HW4.out.size
        clear hBx HC3 HY3 HB3
        have hbq := beq_pt (Y0, Y1) (F0, F1)
        dsimp only at hbq
        by_cases he : (Y0, Y1) = (F0, F1)
        · rw [decide_eq_true he] at hbq
          have hcl2 := HGO.out
          rw [if_pos he] at hcl2
          have hM : M = k + 1 := hcl.symm.trans hcl2
          subst hM
          clear hcl hcl2 he
          rw [hbq]
          clear hbq
          go_wp2_with fail
          refine bodyPost_ret (v := .slice (some ⟨gv, 0, none⟩) (k + 1) vc) (by simp (maxDischargeDepth := 8) [results, Try.results59, go_sem, *]) rfl ?_
          exact ⟨_, rfl, HO4.out, HW4.out⟩
        · rw [decide_eq_false he] at hbq
          have hcl2 := HGO.out
          rw [if_neg he] at hcl2
          have hM : Hid (clo (F0, F1) h (13 - (k + 1 + 1)) (k + 1 + 1) = M) := hcl2.symm.trans hcl
          clear hcl hcl2 he
          rw [hbq]
          clear hbq
          obtain ⟨⟨y0, y1⟩, _, yl⟩ := HY4.out
          have hsz4 := HW4.out.size
          go_wp2_with (at_builtin; refine wpList_app_F1 w (a0 := Y0) (a1 := Y1) rfl _ _ rfl (World.ownsRow.alloc HO4.out _) (by go_cell) (by go_cell) (HW4.out.alloc hsz4 _) rfl rfl (by omega) ?_; clear y0 y1 yl; intro v' w5 hO5 hB5; have hO5 := Lib.hid hO5; have hB5 := Lib.hid hB5)
          obtain ⟨va', vc', rfl, _⟩ := own_viewF hO5.out
          go_roundw
          case rel => exact ⟨k + 1, va', vc', rfl, by omega, hM.out, by rw [HSN.out, flat_append]; exact hO5.out, hB5.out⟩
          case measure => simp [slLen]; omega
    · have hk13 : k = 12 := by omega
      subst hk13
      have hM : M = 13 := hcl.symm
      subst hM
      clear hcl
      go_wp2_with fail
      refine bodyPost_ret (v := .slice (some ⟨gv, 0, none⟩) (12 + 1) vc) (by simp (maxDischargeDepth := 8) [results, Try.results59, go_sem, *]) rfl ?_
      exact ⟨_, rfl, HO.out, HBr.out⟩
end Go.Proofs.Ytkfoelkkllpmdaa
