/-
  The way around points, as the model goes it (own work).
-/
import Derived.Test.YtmjhejmkmdgikaaApF
import Derived.Test.YtmjhejmkmdgikaaPgU
import Derived.Test.YtmjhejmkmdgikaaPgK
namespace Go.Proofs.Ytmjhejmkmdgikaa
open Go.ChangeShapes Go.WideShapes Go.ChangeAt Go.RowKit
set_option linter.unusedVariables false
set_option maxRecDepth 100000
set_option linter.unusedSimpArgs false
set_option maxRecDepth 100000

def hlM (L : List (Int × Int)) : Nat := clo (hF L) (hsq L (hF L)) L.length 1
theorem fold_mst {L : List (Int × Int)} {a : Int × Int} {m : Nat} (h : m < L.length) : (L.take (m + 1)).foldl (mst a) none = mst a ((L.take m).foldl (mst a) none) (L.getD m (0, 0)) := by
  rw [List.take_succ_eq_append_getElem h, List.foldl_append]
  simp [List.getD, h]
theorem mst_same {a : Int × Int} {acc : Option (Int × Int)} {c : Int × Int} (h : c = a) : mst a acc c = acc := by unfold mst; rw [if_pos h]
theorem mst_no {a c : Int × Int} (h : ¬ c = a) : mst a none c = some c := by unfold mst; rw [if_neg h]
theorem mst_so {a q c : Int × Int} (h : ¬ c = a) : mst a (some q) c = if better a q c = true then some c else some q := by unfold mst; rw [if_neg h]
theorem bet_lt {a b c : Int × Int} (h : trn a b c < 0) : better a b c = true := by simp [better, h]
theorem bet_gt {a b c : Int × Int} (h : ¬ trn a b c < 0) (k : ¬ trn a b c = 0) : better a b c = false := by simp [better, h, k]
theorem bet_eq {a b c : Int × Int} (h : trn a b c = 0) : better a b c = decide (l1 (sbv b a) < l1 (sbv c a)) := by simp [better, h]
theorem clo_in (f : Int × Int) (h : Nat → Int × Int) {n k : Nat} (hk : k < n) : clo f h (n - k) (k + 1) = if h (k + 1) = f then k + 1 else clo f h (n - (k + 1)) (k + 1 + 1) := by
  rw [show n - k = (n - (k + 1)) + 1 from by omega]
  rfl
theorem mnL_zero (ps : List (Int × Int)) : mnL ps 0 = ps.getD 0 (0, 0) := rfl
/-- What the model's search finds is the next corner; it finds none if there is but one point. -/
theorem hull_mx {L : List (Int × Int)} (h1 : 1 ≤ L.length) (k : Nat) : mnx L (hsq L (hF L) k) = some (hsq L (hF L) (k + 1)) ∨ (mnx L (hsq L (hF L) k) = none ∧ hsq L (hF L) (k + 1) = hF L) := by
  obtain ⟨hi, he⟩ := hsq_ok (hF_in h1) (hF_min L) k
  obtain ⟨e1, e2, e3⟩ := nx_same he hi
  have e0 : hsq L (hF L) (k + 1) = (mnx L (hsq L (hF L) k)).getD (hsq L (hF L) k) := e1
  cases hx : mnx L (hsq L (hF L) k) with
  | some b => left; rw [e0, hx]; rfl
  | none =>
    right
    refine ⟨rfl, ?_⟩
    rw [e0, hx]
    exact (e3 hx _ (hF_in h1)).symm
theorem l09Hull_nil (a : Option Addr) (cap : Nat) (w : World) : Calls Try.prog 99 #[.slice a 0 cap] w (RetP w 0 []) := by
  go_enter Try.func99, Try.ntmps99
  go_wp2_with fail
  refine bodyPost_ret (v := .slice (some ⟨w.heap.size, 0, none⟩) 0 0) (by simp (maxDischargeDepth := 8) [results, Try.results99, go_sem, *]) rfl ?_
  exact ⟨_, rfl, World.ownsRow_lit w #[] 0 (Nat.le_refl _) (by unfold maxLen; omega) rfl, by (repeat' (first | (with_reducible exact Below.refl _ _) | (with_reducible refine Below.alloc ?_ ?_ _) | (with_reducible refine Below.setCell ?_ ?_ _) | (with_reducible refine Below.drew ?_) | (with_reducible refine below_drewN ?_ _) | (with_reducible assumption) | (with_reducible refine below_after (by with_reducible assumption) ?_) | go_size))⟩
set_option maxHeartbeats 16000000 in
theorem l09Hull_some (g n cap : Nat) (L : List (Int × Int)) (w : World) (h1 : 1 ≤ n) (hn : L.length = n) (hm : n ≤ 1000000) (hg : g < w.heap.size) (hc : PtCells w g 0 L) (hpt : ∀ k, k < n → isPt (L.getD k (0, 0)) = true) :
    Calls Try.prog 99 #[.slice (some ⟨g, 0, none⟩) n cap] w (RetP w (hlM L) (flat (lst (hsq L (hF L)) (hlM L)))) := by
  have HC := Lib.hid hc
  have HN := Lib.hid hn
  have HG := Lib.hid hg
  have HPT := Lib.hid hpt
  have hin : ∀ k, hsq L (hF L) k ∈ L := fun k => (hsq_ok (hF_in (by omega)) (hF_min L) k).1
  have HPH : Hid (∀ k, isPt (hsq L (hF L) k) = true) := fun k => by
    obtain ⟨i, hi, e⟩ := List.mem_iff_getElem.1 (hin k)
    have := hpt i (by omega)
    rw [List.getD_eq_getElem?_getD, List.getElem?_eq_getElem hi] at this
    rw [← e]; exact this
  have H0 : hsq L (hF L) 0 = hF L := rfl
  have HMX := Lib.hid (hull_mx (L := L) (by omega))
  have HMN : Hid (mnL L n = hF L) := by show _ = _; rw [← hn]; exact mnL_all L
  have HMS : Hid (∀ k, k < n → mnL L (k + 1) = if lxlt (L.getD k (0, 0)) (mnL L k) = true then L.getD k (0, 0) else mnL L k) := fun k hk => mnL_succ (by omega)
  have HMZ := Lib.hid (mnL_zero L)
  unfold hlM
  rw [hn]
  obtain ⟨F, hF⟩ : ∃ F, hF L = F := ⟨_, rfl⟩
  obtain ⟨h, hh⟩ : ∃ h, hsq L F = h := ⟨_, rfl⟩
  rw [hF, hh] at HPH H0 HMX
  rw [hF] at HMN
  rw [hF, hh]
  obtain ⟨F0, F1⟩ := F
  obtain ⟨M, hM⟩ : ∃ M, clo (F0, F1) h n 1 = M := ⟨_, rfl⟩
  have HM1 : Hid (clo (F0, F1) h (n - 0) (0 + 1) = M) := hM
  rw [hM]
  have HH0 := Lib.hid H0
  obtain ⟨c0, c1⟩ := hc 0 (by omega)
  obtain ⟨Z0, Z1, hZ⟩ : ∃ x y, L.getD 0 (0, 0) = (x, y) := ⟨_, _, rfl⟩
  rw [hZ] at c0 c1 HMZ
  have c0 : w.cell? ⟨g, 0, none⟩ = some (.int .i64 Z0) := c0
  have c1 : w.cell? ⟨g, 1, none⟩ = some (.int .i64 Z1) := c1
  have q0 : ¬ n = 0 := by omega
  have q1 : ¬ (n : Int) = 0 := by omega
  have q2 : (0 : Int) < (n : Int) := by omega
  clear hh hF hin H0 hM hpt hn hc hZ
  go_enter Try.func99, Try.ntmps99
  go_wp2_with fail
  go_loopw [4] (fun i wr => ∃ k : Nat, k ≤ n ∧ i = .int .i64 k ∧ Bk2 wr w.heap.size (mnL L k).1 (mnL L k).2 ∧ Below w.heap.size w wr) (fun i _ => n - (intOf i).toNat)
  case atStart =>
    refine ⟨0, by omega, by go_num, ?_, by (repeat' (first | (with_reducible exact Below.refl _ _) | (with_reducible refine Below.alloc ?_ ?_ _) | (with_reducible refine Below.setCell ?_ ?_ _) | (with_reducible refine Below.drew ?_) | (with_reducible refine below_drewN ?_ _) | (with_reducible assumption) | (with_reducible refine below_after (by with_reducible assumption) ?_) | go_size))⟩
    rw [HMZ.out]
    exact bk2_new w Z0 Z1 _
  case round =>
    obtain ⟨k, hk, rfl, hB, hbel⟩ := hrel
    have HB := Lib.hid hB
    have HBe := Lib.hid hbel
    have hsz := hbel.size
    by_cases hlt : k < n
    · have HS := Lib.hid (HMS.out k hlt)
      have x2 := ptCells_kept HC.out (hbel.block g HG.out) k (by have := HN.out; omega)
      rw [Nat.zero_add] at x2
      obtain ⟨X0, X1, hX⟩ : ∃ x y, L.getD k (0, 0) = (x, y) := ⟨_, _, rfl⟩
      obtain ⟨M0, M1, hMk⟩ : ∃ x y, mnL L k = (x, y) := ⟨_, _, rfl⟩
      rw [hX] at x2
      rw [hX, hMk] at HS
      rw [hMk] at HB hB
      clear hX hMk
      dsimp only at x2 HB hB
      obtain ⟨x0, x1⟩ := x2
      have gk := World.block_lt_of_cell? wr _ x0
      have HCL : Hid (∀ W, Below wr.heap.size wr W → W.cell? ⟨g, k * 2, none⟩ = some (.int .i64 X0) ∧ W.cell? ⟨g, k * 2 + 1, none⟩ = some (.int .i64 X1) ∧ W.cell? ⟨w.heap.size, 0, none⟩ = some (.int .i64 M0) ∧ W.cell? ⟨w.heap.size, 1, none⟩ = some (.int .i64 M1)) := fun W hW => by
        have a := HB.out.below hW
        exact ⟨(hW.cell (p := ⟨g, k * 2, none⟩) gk).trans x0, (hW.cell (p := ⟨g, k * 2 + 1, none⟩) gk).trans x1, a.1.1, a.1.2⟩
      obtain ⟨r, hr⟩ : ∃ r, lxlt (X0, X1) (M0, M1) = r := ⟨_, rfl⟩
      have HBF : Hid (∀ w, Calls Try.prog 132 #[.agg #[.int .i64 X0, .int .i64 X1], .agg #[.int .i64 M0, .int .i64 M1]] w fun e w' => e = .returned (.bool r) ∧ Below w.heap.size w w') := fun w => by have := l09Before_any X0 X1 M0 M1 w; rwa [hr] at this
      rw [hr] at HS
      have q3 : (0 : Int) ≤ (k : Int) := by omega
      have q4 : (k : Int) < (n : Int) := by omega
      clear hr hB hbel x0 x1
      go_wp2_with fail
      go_cut [29] (fun v wx => v = .bool r ∧ Below wr.heap.size wr wx)
      case first =>
        refine wp_region_held_drew (S := fun W => Below wr.heap.size wr W) (by kernel_rfl) ?_ (fun hHeld => ?_); focus ((try dsimp only); exact (Below.refl _ _).drew)
        have hHeld : Below wr.heap.size wr _ := hHeld
        obtain ⟨wD, hwD⟩ : ∃ wD, wr.drew = wD := ⟨_, rfl⟩
        rw [hwD] at hHeld ⊢
        clear hwD
        (refine wpAnyH_take (i := 0) (v := ?_) rfl (by kernel_rfl) (by kernel_rfl) (by kernel_rfl) (fun _ _ _ h => h) (Or.inl ⟨rfl, ?_⟩) (by assumption) ?_; rotate_left; focus (intro W hSw; (try dsimp only at hSw); obtain ⟨i0, i1, i2, i3⟩ := HCL.out _ hSw; go_simp; try (with_reducible rfl))); (try simp only [Act.put, List.getElem_toArray, List.getElem_cons_succ, List.getElem_cons_zero, List.setIfInBounds_toArray, List.set_cons_zero, List.set_cons_succ])
        (refine wpAnyH_take (i := 1) (v := ?_) rfl (by kernel_rfl) (by kernel_rfl) (by kernel_rfl) (fun _ _ _ h => h) (Or.inl ⟨rfl, ?_⟩) (by assumption) ?_; rotate_left; focus (intro W hSw; (try dsimp only at hSw); obtain ⟨i0, i1, i2, i3⟩ := HCL.out _ hSw; go_simp; try (with_reducible rfl))); (try simp only [Act.put, List.getElem_toArray, List.getElem_cons_succ, List.getElem_cons_zero, List.setIfInBounds_toArray, List.set_cons_zero, List.set_cons_succ])
        (refine wpAnyH_take (i := 2) (v := ?_) rfl (by kernel_rfl) (by kernel_rfl) (by kernel_rfl) (fun _ _ _ h => h) (Or.inl ⟨rfl, ?_⟩) (by assumption) ?_; rotate_left; focus (intro W hSw; (try dsimp only at hSw); obtain ⟨i0, i1, i2, i3⟩ := HCL.out _ hSw; go_simp; try (with_reducible rfl))); (try simp only [Act.put, List.getElem_toArray, List.getElem_cons_succ, List.getElem_cons_zero, List.setIfInBounds_toArray, List.set_cons_zero, List.set_cons_succ])
        (refine wpAnyH_take (i := 3) (v := ?_) rfl (by kernel_rfl) (by kernel_rfl) (by kernel_rfl) (fun _ _ _ h => h) (Or.inl ⟨rfl, ?_⟩) (by assumption) ?_; rotate_left; focus (intro W hSw; (try dsimp only at hSw); obtain ⟨i0, i1, i2, i3⟩ := HCL.out _ hSw; go_simp; try (with_reducible rfl))); (try simp only [Act.put, List.getElem_toArray, List.getElem_cons_succ, List.getElem_cons_zero, List.setIfInBounds_toArray, List.set_cons_zero, List.set_cons_succ])
        (refine wpAnyH_take (i := 4) (v := ?_) rfl (by kernel_rfl) (by kernel_rfl) (by kernel_rfl) (fun _ _ _ h => h) (Or.inl ⟨rfl, ?_⟩) (by assumption) ?_; rotate_left; focus (intro W hSw; (try dsimp only at hSw); obtain ⟨i0, i1, i2, i3⟩ := HCL.out _ hSw; go_simp; try (with_reducible rfl))); (try simp only [Act.put, List.getElem_toArray, List.getElem_cons_succ, List.getElem_cons_zero, List.setIfInBounds_toArray, List.set_cons_zero, List.set_cons_succ])
        refine wpAnyH_ready (rs := [5]) (by kernel_rfl) (by simp) ?_; refine AllReadyH.cons rfl (fun K hK => ?_) AllReadyH.nil
        go_simp; (go_at_call 132; refine (HBF.out _).mono ?_; rintro en yw0 ⟨rfl, hb2⟩); refine hK.out _ _ (below_after hb2 hHeld) (fun hHeld2 => ?_); clear hb2; (clear hHeld; rename _ => hHeld; clear hK K; have hHeld : Below wr.heap.size wr _ := hHeld); (try simp only [Act.put, List.getElem_toArray, List.getElem_cons_succ, List.getElem_cons_zero, List.setIfInBounds_toArray, List.set_cons_zero, List.set_cons_succ])
        refine wpAnyH_done (by kernel_rfl) ?_ _
        go_wp2_with fail
        go_meet
        exact ⟨rfl, hHeld⟩
      case rest =>
        obtain ⟨rfl, hBx⟩ := hcut
        obtain ⟨w3, rfl⟩ : ∃ w2, w2 = wc := ⟨_, rfl⟩
        have HB3 := Lib.hid (HB.out.below hBx)
        have HBe3 := Lib.hid (below_after hBx HBe.out)
        obtain ⟨i0, i1, i2, i3⟩ := HCL.out _ hBx
        have hs3 := HBe3.out.size
        clear hBx HB HBe HCL
        cases r
        · have HS2 : Hid (mnL L (k + 1) = (M0, M1)) := HS.out
          clear HS
          go_wp2_with fail
          go_roundw
          case rel => exact ⟨k + 1, by omega, by go_num, by rw [HS2.out]; exact HB3.out, HBe3.out⟩
          case measure => simp [intOf]; omega
        · have HS2 : Hid (mnL L (k + 1) = (X0, X1)) := HS.out
          clear HS
          obtain ⟨_, ⟨f0, f1⟩, hlt3⟩ := HB3.out
          go_wp2_with fail
          go_roundw
          case rel =>
            have hbb := HBe3.out
            refine ⟨k + 1, by omega, by go_num, ?_, by (repeat' (first | (with_reducible exact Below.refl _ _) | (with_reducible refine Below.alloc ?_ ?_ _) | (with_reducible refine Below.setCell ?_ ?_ _) | (with_reducible refine Below.drew ?_) | (with_reducible refine below_drewN ?_ _) | (with_reducible assumption) | (with_reducible refine below_after (by with_reducible assumption) ?_) | go_size))⟩
            rw [HS2.out]; exact (HB3.out.set0 X0).set1 X1
          case measure => simp [intOf]; omega
    · have hkn : n = k := by omega
      subst hkn
      rw [HMN.out] at HB
      dsimp only at HB
      obtain ⟨⟨b0, b1⟩, _, bl⟩ := HB.out
      have q3 : ¬ (n : Int) < (n : Int) := by omega
      obtain ⟨w1, rfl⟩ : ∃ x, x = wr := ⟨_, rfl⟩
      clear hB hbel
      go_wp2_with fail
      clear b0 b1 bl q3
      go_loopw [5] (fun t5 wr => ∃ (j : Nat) (va : Option Addr) (vc : Nat), t5 = .slice va (j + 1) vc ∧ j < n ∧ clo (F0, F1) h (n - j) (j + 1) = M ∧ OwnF w1.heap.size wr (.slice va (j + 1) vc) (j + 1) (flat (lst h (j + 1))) ∧ Below w1.heap.size w1 wr) (fun t5 _ => n - slLen t5)
      case atStart =>
        refine ⟨0, some ⟨w1.heap.size, 0, none⟩, 1, rfl, by omega, HM1.out, ?_, (Below.refl _ _).alloc (Nat.le_refl _) _⟩
        rw [show flat (lst h (0 + 1)) = [F0, F1] from by simp [lst, flat, HH0.out]]
        exact World.ownsRow_lit w1 #[.int .i64 F0, .int .i64 F1] 1 (Nat.le_refl _) (by unfold maxLen; omega) rfl
      case round =>
        obtain ⟨j, va, vc, rfl, hj, hcl, hO, hBe⟩ := hrel
        obtain ⟨wo, rfl⟩ : ∃ x, x = wr := ⟨_, rfl⟩
        have HO := Lib.hid hO
        have HBo := Lib.hid hBe
        have HWo := Lib.hid (below_after hBe HBe.out)
        have HFo := Lib.hid (HB.out.below hBe)
        have hso := hBe.size
        obtain ⟨xa, xc, hsl, hv⟩ := own_viewF hO
        obtain ⟨rfl, rfl⟩ : va = xa ∧ vc = xc := by simpa using hsl
        obtain ⟨gv, rfl, hgv, hgl, hcv, _⟩ := hv (by omega)
        have HGO := Lib.hid (clo_in (F0, F1) h hj)
        have HXj := Lib.hid (HMX.out j)
        have u0 := hcv (j * 2) (by omega)
        have u1 := hcv (j * 2 + 1) (by omega)
        have fk := flat_at (lst h (j + 1)) j
        rw [lst_get h (by omega)] at fk
        rw [fk.1] at u0
        rw [fk.2] at u1
        have HPA := Lib.hid (HPH.out j)
        have HSN := Lib.hid (lst_snoc h (j + 1))
        obtain ⟨A0, A1, hA⟩ : ∃ x y, h j = (x, y) := ⟨_, _, rfl⟩
        obtain ⟨N0, N1, hN⟩ : ∃ x y, h (j + 1) = (x, y) := ⟨_, _, rfl⟩
        rw [hA] at u0 u1 HPA HXj
        rw [hN] at HSN HGO HXj
        dsimp only at u0 u1
        have qk : IntKind.i64.wrap ((j : Int) + 1 - 1) = (j : Int) := by rw [IntKind.wrap_i64]; omega
        have qk2 : (j : Int) + 1 - 1 = (j : Int) := by omega
        have q4 : (0 : Int) ≤ (j : Int) := by omega
        have q5 : (j : Int) < (j : Int) + 1 := by omega
        clear hA hN fk hcv hsl hv hO hBe
        go_wp2_with fail
        clear u0 u1
        obtain ⟨wq, hwq⟩ : ∃ wq, wq = wo.alloc (.cells #[.int .i64 A0, .int .i64 A1] 32) := ⟨_, rfl⟩
        rw [← hwq]
        have HQs : Hid (wq.heap.size = wo.heap.size + 1) := by show _ = _; rw [hwq, World.size_alloc]
        have HBq : Hid (Below wo.heap.size wo wq) := by
          show Below wo.heap.size wo wq
          rw [hwq]; (repeat' (first | (with_reducible exact Below.refl _ _) | (with_reducible refine Below.alloc ?_ ?_ _) | (with_reducible refine Below.setCell ?_ ?_ _) | (with_reducible refine Below.drew ?_) | (with_reducible refine below_drewN ?_ _) | (with_reducible assumption) | (with_reducible refine below_after (by with_reducible assumption) ?_) | go_size))
        have HAq : Hid (Bk2 wq wo.heap.size A0 A1) := by show Bk2 wq wo.heap.size A0 A1; rw [hwq]; exact bk2_new wo A0 A1 _
        clear hwq
        go_loopw [8, 9] (fun t8 t9 wi => ∃ (m : Nat) (fd : Bool) (p0 p1 : Int), m ≤ n ∧ t8 = .bool fd ∧ t9 = .int .i64 m ∧ (L.take m).foldl (mst (A0, A1)) none = (if fd = true then some (p0, p1) else none) ∧ isPt (p0, p1) = true ∧ Bk2 wi (wo.heap.size + 1) p0 p1 ∧ Below wq.heap.size wq wi) (fun _ t9 _ => n - (intOf t9).toNat)
        case atStart =>
          refine ⟨0, false, 0, 0, by omega, rfl, by go_num, rfl, by decide, ?_, (Below.refl _ _).alloc (Nat.le_refl _) _⟩
          have := bk2_new wq 0 0 32
          rwa [HQs.out] at this
        case round =>
          obtain ⟨m, fd, p0, p1, hmn, rfl, rfl, hfo, hpp, hP, hBi⟩ := hrel
          obtain ⟨wi, rfl⟩ : ∃ x, x = wr := ⟨_, rfl⟩
          have HFo2 := Lib.hid hfo
          have HPp := Lib.hid hpp
          have HP := Lib.hid hP
          have HBi := Lib.hid hBi
          have hq0 := hBi.size
          have HWi := Lib.hid (below_after hBi (below_after HBq.out HWo.out))
          have hq1 := HWi.out.size
          clear hfo hpp hP hBi
          by_cases hmlt : m < n
          · have y2 := ptCells_kept HC.out (HWi.out.block g HG.out) m (by have := HN.out; omega)
            rw [Nat.zero_add] at y2
            have HPC := Lib.hid (HPT.out m hmlt)
            have HST := Lib.hid (fold_mst (L := L) (a := (A0, A1)) (m := m) (by have := HN.out; omega))
            rw [HFo2.out] at HST
            obtain ⟨C0, C1, hC⟩ : ∃ x y, L.getD m (0, 0) = (x, y) := ⟨_, _, rfl⟩
            rw [hC] at y2 HPC HST
            dsimp only at y2
            obtain ⟨y0, y1⟩ := y2
            have glr := World.block_lt_of_cell? wi _ y0
            have HCI : Hid (∀ W, Below wi.heap.size wi W → W.cell? ⟨g, m * 2, none⟩ = some (.int .i64 C0) ∧ W.cell? ⟨g, m * 2 + 1, none⟩ = some (.int .i64 C1) ∧ W.cell? ⟨wo.heap.size, 0, none⟩ = some (.int .i64 A0) ∧ W.cell? ⟨wo.heap.size, 1, none⟩ = some (.int .i64 A1) ∧ W.cell? ⟨wo.heap.size + 1, 0, none⟩ = some (.int .i64 p0) ∧ W.cell? ⟨wo.heap.size + 1, 1, none⟩ = some (.int .i64 p1)) := fun W hW => by
              have p := (HAq.out.below HBi.out).below hW
              have q := HP.out.below hW
              exact ⟨(hW.cell (p := ⟨g, m * 2, none⟩) glr).trans y0, (hW.cell (p := ⟨g, m * 2 + 1, none⟩) glr).trans y1, p.1.1, p.1.2, q.1.1, q.1.2⟩
            have k2 : (0 : Int) ≤ (m : Int) := by omega
            have k3 : (m : Int) < (n : Int) := by omega
            have ka : IntKind.i64.wrap ((m : Int) + 1) = (m : Int) + 1 := by rw [IntKind.wrap_i64]; omega
            have HBn : Hid (Below wi.heap.size wi wi) := Below.refl _ _
            clear hC y0 y1
            go_wp2_with fail
            go_cut [54] (fun v wx => v = .bool (C0 == A0 && C1 == A1) ∧ Below wi.heap.size wi wx)
            case first =>
              refine wp_region_held_drew (S := fun W => Below wi.heap.size wi W) (by kernel_rfl) ?_ (fun hHeld => ?_); focus ((try dsimp only); exact (Below.refl _ _).drew)
              have hHeld : Below wi.heap.size wi _ := hHeld
              obtain ⟨wD, hwD⟩ : ∃ wD, wi.drew = wD := ⟨_, rfl⟩
              rw [hwD] at hHeld ⊢
              clear hwD
              (refine wpAnyH_take (i := 0) (v := ?_) rfl (by kernel_rfl) (by kernel_rfl) (by kernel_rfl) (fun _ _ _ h => h) (Or.inl ⟨rfl, ?_⟩) (by assumption) ?_; rotate_left; focus (intro W hSw; (try dsimp only at hSw); obtain ⟨i0, i1, i2, i3, i4, i5⟩ := HCI.out _ (below_after hSw HBn.out); go_simp; try (with_reducible rfl))); (try simp only [Act.put, List.getElem_toArray, List.getElem_cons_succ, List.getElem_cons_zero, List.setIfInBounds_toArray, List.set_cons_zero, List.set_cons_succ])
              (refine wpAnyH_take (i := 1) (v := ?_) rfl (by kernel_rfl) (by kernel_rfl) (by kernel_rfl) (fun _ _ _ h => h) (Or.inl ⟨rfl, ?_⟩) (by assumption) ?_; rotate_left; focus (intro W hSw; (try dsimp only at hSw); obtain ⟨i0, i1, i2, i3, i4, i5⟩ := HCI.out _ (below_after hSw HBn.out); go_simp; try (with_reducible rfl))); (try simp only [Act.put, List.getElem_toArray, List.getElem_cons_succ, List.getElem_cons_zero, List.setIfInBounds_toArray, List.set_cons_zero, List.set_cons_succ])
              (refine wpAnyH_take (i := 2) (v := ?_) rfl (by kernel_rfl) (by kernel_rfl) (by kernel_rfl) (fun _ _ _ h => h) (Or.inl ⟨rfl, ?_⟩) (by assumption) ?_; rotate_left; focus (intro W hSw; (try dsimp only at hSw); obtain ⟨i0, i1, i2, i3, i4, i5⟩ := HCI.out _ (below_after hSw HBn.out); go_simp; try (with_reducible rfl))); (try simp only [Act.put, List.getElem_toArray, List.getElem_cons_succ, List.getElem_cons_zero, List.setIfInBounds_toArray, List.set_cons_zero, List.set_cons_succ])
              (refine wpAnyH_take (i := 3) (v := ?_) rfl (by kernel_rfl) (by kernel_rfl) (by kernel_rfl) (fun _ _ _ h => h) (Or.inl ⟨rfl, ?_⟩) (by assumption) ?_; rotate_left; focus (intro W hSw; (try dsimp only at hSw); obtain ⟨i0, i1, i2, i3, i4, i5⟩ := HCI.out _ (below_after hSw HBn.out); go_simp; try (with_reducible rfl))); (try simp only [Act.put, List.getElem_toArray, List.getElem_cons_succ, List.getElem_cons_zero, List.setIfInBounds_toArray, List.set_cons_zero, List.set_cons_succ])
              (refine wpAnyH_take (i := 4) (v := ?_) rfl (by kernel_rfl) (by kernel_rfl) (by kernel_rfl) (fun _ _ _ h => h) (Or.inl ⟨rfl, ?_⟩) (by assumption) ?_; rotate_left; focus (intro W hSw; (try dsimp only at hSw); obtain ⟨i0, i1, i2, i3, i4, i5⟩ := HCI.out _ (below_after hSw HBn.out); go_simp; try (with_reducible rfl))); (try simp only [Act.put, List.getElem_toArray, List.getElem_cons_succ, List.getElem_cons_zero, List.setIfInBounds_toArray, List.set_cons_zero, List.set_cons_succ])
              (refine wpAnyH_take (i := 5) (v := ?_) rfl (by kernel_rfl) (by kernel_rfl) (by kernel_rfl) (fun _ _ _ h => h) (Or.inl ⟨rfl, ?_⟩) (by assumption) ?_; rotate_left; focus (intro W hSw; (try dsimp only at hSw); obtain ⟨i0, i1, i2, i3, i4, i5⟩ := HCI.out _ (below_after hSw HBn.out); have eqq := eq_pt C0 C1 A0 A1 W; go_simp; (try rw [eqq]); go_simp; try (with_reducible rfl))); (try simp only [Act.put, List.getElem_toArray, List.getElem_cons_succ, List.getElem_cons_zero, List.setIfInBounds_toArray, List.set_cons_zero, List.set_cons_succ])
              refine wpAnyH_done (by kernel_rfl) ?_ _
              go_wp2_with fail
              go_meet
              exact ⟨rfl, hHeld⟩
            case rest =>
              obtain ⟨rfl, hBx⟩ := hcut
              obtain ⟨w2, rfl⟩ : ∃ w2, w2 = wc := ⟨_, rfl⟩
              have HBn := Lib.hid hBx
              have HB2 := Lib.hid hBx
              have hs2 := hBx.size
              have hbq := beq_pt (C0, C1) (A0, A1)
              dsimp only at hbq
              clear hBx
              by_cases he : (C0, C1) = (A0, A1)
              · rw [decide_eq_true he] at hbq
                rw [mst_same he] at HST
                rw [hbq]
                clear hbq he
                go_wp2_with fail
                go_roundw
                case rel => exact ⟨m + 1, fd, p0, p1, by omega, rfl, by go_num, HST.out, HPp.out, HP.out.below HB2.out, below_after HB2.out HBi.out⟩
                case measure => simp [intOf]; omega
              · rw [decide_eq_false he] at hbq
                rw [hbq]
                clear hbq
                obtain ⟨i0, i1, i2, i3, i4, i5⟩ := HCI.out _ HB2.out
                obtain ⟨_, ⟨f0, f1⟩, fl⟩ := HP.out.below HB2.out
                have HBq2 := Lib.hid (below_after HB2.out HBi.out)
                cases fd
                · have HS2 : Hid ((L.take (m + 1)).foldl (mst (A0, A1)) none = some (C0, C1)) := HST.out.trans (mst_no he)
                  clear HST he
                  go_wp2_with fail
                  go_roundw
                  case rel =>
                    have hbb := HBq2.out
                    have hN2 := HQs.out
                    refine ⟨m + 1, true, C0, C1, by omega, rfl, by go_num, HS2.out, HPC.out, ((HP.out.below HB2.out).set0 C0).set1 C1, by (repeat' (first | (with_reducible exact Below.refl _ _) | (with_reducible refine Below.alloc ?_ ?_ _) | (with_reducible refine Below.setCell ?_ ?_ _) | (with_reducible refine Below.drew ?_) | (with_reducible refine below_drewN ?_ _) | (with_reducible assumption) | (with_reducible refine below_after (by with_reducible assumption) ?_) | go_size))⟩
                  case measure => simp [intOf]; omega
                · have HS2 : Hid ((L.take (m + 1)).foldl (mst (A0, A1)) none = if better (A0, A1) (p0, p1) (C0, C1) = true then some (C0, C1) else some (p0, p1)) := HST.out.trans (mst_so he)
                  obtain ⟨B, hB⟩ : ∃ B, better (A0, A1) (p0, p1) (C0, C1) = B := ⟨_, rfl⟩
                  rw [hB] at HS2
                  obtain ⟨T, hT⟩ : ∃ T, trn (A0, A1) (p0, p1) (C0, C1) = T := ⟨_, rfl⟩
                  obtain ⟨LP, hLP⟩ : ∃ V, l1 (sbv (p0, p1) (A0, A1)) = V := ⟨_, rfl⟩
                  obtain ⟨LC, hLC⟩ : ∃ V, l1 (sbv (C0, C1) (A0, A1)) = V := ⟨_, rfl⟩
                  have HP1 : Hid (∀ w, Calls Try.prog 97 #[.agg #[.int .i64 p0, .int .i64 p1], .agg #[.int .i64 A0, .int .i64 A1], .int .i64 (-1)] w fun e w' => e = .returned (.agg #[.int .i64 (p0 - A0), .int .i64 (p1 - A1)]) ∧ Below w.heap.size w w') := fun w => l01Plus_minus _ _ _ _ w (isPt_bn1 HPp.out) (isPt_bn2 HPp.out) (isPt_bn1 HPA.out) (isPt_bn2 HPA.out)
                  have HP2 : Hid (∀ w, Calls Try.prog 97 #[.agg #[.int .i64 C0, .int .i64 C1], .agg #[.int .i64 A0, .int .i64 A1], .int .i64 (-1)] w fun e w' => e = .returned (.agg #[.int .i64 (C0 - A0), .int .i64 (C1 - A1)]) ∧ Below w.heap.size w w') := fun w => l01Plus_minus _ _ _ _ w (isPt_bn1 HPC.out) (isPt_bn2 HPC.out) (isPt_bn1 HPA.out) (isPt_bn2 HPA.out)
                  have HDT : Hid (∀ w, Calls Try.prog 125 #[.agg #[.int .i64 (p0 - A0), .int .i64 (p1 - A1)], .agg #[.int .i64 (C0 - A0), .int .i64 (C1 - A1)]] w fun e w' => e = .returned (.int .i64 T) ∧ Below w.heap.size w w') := fun w => by
                    have := l01Det_any (p0 - A0) (p1 - A1) (C0 - A0) (C1 - A1) w (bn_sub (isPt_c1 HPp.out) (isPt_c1 HPA.out)) (bn_sub (isPt_c2 HPp.out) (isPt_c2 HPA.out)) (bn_sub (isPt_c1 HPC.out) (isPt_c1 HPA.out)) (bn_sub (isPt_c2 HPC.out) (isPt_c2 HPA.out))
                    rw [← hT]
                    exact this
                  have HFC : Hid (∀ w, Calls Try.prog 133 #[.agg #[.int .i64 A0, .int .i64 A1], .agg #[.int .i64 C0, .int .i64 C1]] w fun e w' => e = .returned (.int .i64 LC) ∧ Below w.heap.size w w') := fun w => by
                    have := l09Far_any A0 A1 C0 C1 w HPA.out HPC.out
                    rwa [hLC] at this
                  have HFP : Hid (∀ w, Calls Try.prog 133 #[.agg #[.int .i64 A0, .int .i64 A1], .agg #[.int .i64 p0, .int .i64 p1]] w fun e w' => e = .returned (.int .i64 LP) ∧ Below w.heap.size w w') := fun w => by
                    have := l09Far_any A0 A1 p0 p1 w HPA.out HPp.out
                    rwa [hLP] at this
                  have H1 : Hid (T < 0 → true = B) := fun h => by rw [← hB, bet_lt (by rw [hT]; exact h)]
                  have H2 : Hid (¬ T < 0 → ¬ T = 0 → false = B) := fun h k => by rw [← hB, bet_gt (by rw [hT]; exact h) (by rw [hT]; exact k)]
                  have H3 : Hid (T = 0 → decide (LP < LC) = B) := fun h => by rw [← hB, bet_eq (by rw [hT]; exact h), hLP, hLC]
                  clear hB hT hLP hLC HST he i0 i1 i2 i3 i4 i5 f0 f1 fl
                  go_wp2_with fail
                  go_cut [10] (fun v wx => v = .int .i64 T ∧ Below w2.heap.size w2 wx)
                  case first =>
                    refine wp_region_held_drew (S := fun W => Below w2.heap.size w2 W) (by kernel_rfl) ?_ (fun hHeld => ?_); focus ((try dsimp only); exact (Below.refl _ _).drew)
                    have hHeld : Below w2.heap.size w2 _ := hHeld
                    obtain ⟨wD, hwD⟩ : ∃ wD, w2.drew = wD := ⟨_, rfl⟩
                    rw [hwD] at hHeld ⊢
                    clear hwD
                    (refine wpAnyH_take (i := 0) (v := ?_) rfl (by kernel_rfl) (by kernel_rfl) (by kernel_rfl) (fun _ _ _ h => h) (Or.inl ⟨rfl, ?_⟩) (by assumption) ?_; rotate_left; focus (intro W hSw; (try dsimp only at hSw); obtain ⟨i0, i1, i2, i3, i4, i5⟩ := HCI.out _ (below_after hSw HBn.out); go_simp; try (with_reducible rfl))); (try simp only [Act.put, List.getElem_toArray, List.getElem_cons_succ, List.getElem_cons_zero, List.setIfInBounds_toArray, List.set_cons_zero, List.set_cons_succ])
                    (refine wpAnyH_take (i := 1) (v := ?_) rfl (by kernel_rfl) (by kernel_rfl) (by kernel_rfl) (fun _ _ _ h => h) (Or.inl ⟨rfl, ?_⟩) (by assumption) ?_; rotate_left; focus (intro W hSw; (try dsimp only at hSw); obtain ⟨i0, i1, i2, i3, i4, i5⟩ := HCI.out _ (below_after hSw HBn.out); go_simp; try (with_reducible rfl))); (try simp only [Act.put, List.getElem_toArray, List.getElem_cons_succ, List.getElem_cons_zero, List.setIfInBounds_toArray, List.set_cons_zero, List.set_cons_succ])
                    (refine wpAnyH_take (i := 3) (v := ?_) rfl (by kernel_rfl) (by kernel_rfl) (by kernel_rfl) (fun _ _ _ h => h) (Or.inl ⟨rfl, ?_⟩) (by assumption) ?_; rotate_left; focus (intro W hSw; (try dsimp only at hSw); obtain ⟨i0, i1, i2, i3, i4, i5⟩ := HCI.out _ (below_after hSw HBn.out); go_simp; try (with_reducible rfl))); (try simp only [Act.put, List.getElem_toArray, List.getElem_cons_succ, List.getElem_cons_zero, List.setIfInBounds_toArray, List.set_cons_zero, List.set_cons_succ])
                    (refine wpAnyH_take (i := 4) (v := ?_) rfl (by kernel_rfl) (by kernel_rfl) (by kernel_rfl) (fun _ _ _ h => h) (Or.inl ⟨rfl, ?_⟩) (by assumption) ?_; rotate_left; focus (intro W hSw; (try dsimp only at hSw); obtain ⟨i0, i1, i2, i3, i4, i5⟩ := HCI.out _ (below_after hSw HBn.out); go_simp; try (with_reducible rfl))); (try simp only [Act.put, List.getElem_toArray, List.getElem_cons_succ, List.getElem_cons_zero, List.setIfInBounds_toArray, List.set_cons_zero, List.set_cons_succ])
                    (refine wpAnyH_take (i := 5) (v := ?_) rfl (by kernel_rfl) (by kernel_rfl) (by kernel_rfl) (fun _ _ _ h => h) (Or.inl ⟨rfl, ?_⟩) (by assumption) ?_; rotate_left; focus (intro W hSw; (try dsimp only at hSw); obtain ⟨i0, i1, i2, i3, i4, i5⟩ := HCI.out _ (below_after hSw HBn.out); go_simp; try (with_reducible rfl))); (try simp only [Act.put, List.getElem_toArray, List.getElem_cons_succ, List.getElem_cons_zero, List.setIfInBounds_toArray, List.set_cons_zero, List.set_cons_succ])
                    (refine wpAnyH_take (i := 6) (v := ?_) rfl (by kernel_rfl) (by kernel_rfl) (by kernel_rfl) (fun _ _ _ h => h) (Or.inl ⟨rfl, ?_⟩) (by assumption) ?_; rotate_left; focus (intro W hSw; (try dsimp only at hSw); obtain ⟨i0, i1, i2, i3, i4, i5⟩ := HCI.out _ (below_after hSw HBn.out); go_simp; try (with_reducible rfl))); (try simp only [Act.put, List.getElem_toArray, List.getElem_cons_succ, List.getElem_cons_zero, List.setIfInBounds_toArray, List.set_cons_zero, List.set_cons_succ])
                    (refine wpAnyH_take (i := 7) (v := ?_) rfl (by kernel_rfl) (by kernel_rfl) (by kernel_rfl) (fun _ _ _ h => h) (Or.inl ⟨rfl, ?_⟩) (by assumption) ?_; rotate_left; focus (intro W hSw; (try dsimp only at hSw); obtain ⟨i0, i1, i2, i3, i4, i5⟩ := HCI.out _ (below_after hSw HBn.out); go_simp; try (with_reducible rfl))); (try simp only [Act.put, List.getElem_toArray, List.getElem_cons_succ, List.getElem_cons_zero, List.setIfInBounds_toArray, List.set_cons_zero, List.set_cons_succ])
                    refine wpAnyH_ready (rs := [2]) (by kernel_rfl) (by simp) ?_; refine AllReadyH.cons rfl (fun K hK => ?_) AllReadyH.nil
                    go_simp; (go_at_call 97; refine (HP1.out _).mono ?_; rintro en yw0 ⟨rfl, hb2⟩); refine hK.out _ _ (below_after hb2 hHeld) (fun hHeld2 => ?_); clear hb2; (clear hHeld; rename _ => hHeld; clear hK K; have hHeld : Below w2.heap.size w2 _ := hHeld); (try simp only [Act.put, List.getElem_toArray, List.getElem_cons_succ, List.getElem_cons_zero, List.setIfInBounds_toArray, List.set_cons_zero, List.set_cons_succ])
                    refine wpAnyH_ready (rs := [8]) (by kernel_rfl) (by simp) ?_; refine AllReadyH.cons rfl (fun K hK => ?_) AllReadyH.nil
                    go_simp; (go_at_call 97; refine (HP2.out _).mono ?_; rintro en yw1 ⟨rfl, hb2⟩); refine hK.out _ _ (below_after hb2 hHeld) (fun hHeld2 => ?_); clear hb2; (clear hHeld; rename _ => hHeld; clear hK K; have hHeld : Below w2.heap.size w2 _ := hHeld); (try simp only [Act.put, List.getElem_toArray, List.getElem_cons_succ, List.getElem_cons_zero, List.setIfInBounds_toArray, List.set_cons_zero, List.set_cons_succ])
                    refine wpAnyH_ready (rs := [9]) (by kernel_rfl) (by simp) ?_; refine AllReadyH.cons rfl (fun K hK => ?_) AllReadyH.nil
                    go_simp; (go_at_call 125; refine (HDT.out _).mono ?_; rintro en yw2 ⟨rfl, hb2⟩); refine hK.out _ _ (below_after hb2 hHeld) (fun hHeld2 => ?_); clear hb2; (clear hHeld; rename _ => hHeld; clear hK K; have hHeld : Below w2.heap.size w2 _ := hHeld); (try simp only [Act.put, List.getElem_toArray, List.getElem_cons_succ, List.getElem_cons_zero, List.setIfInBounds_toArray, List.set_cons_zero, List.set_cons_succ])
                    (refine wpAnyH_take (i := 10) (v := ?_) rfl (by kernel_rfl) (by kernel_rfl) (by kernel_rfl) (fun _ _ _ h => h) (Or.inl ⟨rfl, ?_⟩) (by assumption) ?_; rotate_left; focus (intro W hSw; (try dsimp only at hSw); obtain ⟨i0, i1, i2, i3, i4, i5⟩ := HCI.out _ (below_after hSw HBn.out); go_simp; try (with_reducible rfl))); (try simp only [Act.put, List.getElem_toArray, List.getElem_cons_succ, List.getElem_cons_zero, List.setIfInBounds_toArray, List.set_cons_zero, List.set_cons_succ])
                    refine wpAnyH_done (by kernel_rfl) ?_ _
                    go_wp2_with fail
                    go_meet
                    exact ⟨rfl, hHeld⟩
                  case rest =>
                    obtain ⟨rfl, hBx⟩ := hcut
                    obtain ⟨w3, rfl⟩ : ∃ w2, w2 = wc := ⟨_, rfl⟩
                    have HBn := Lib.hid (below_after hBx HB2.out)
                    have HB3 := Lib.hid (below_after hBx HB2.out)
                    clear hBx HP1 HP2 HDT
                    go_wp2_with fail
                    go_cut [88] (fun v wx => v = .bool B ∧ Below w3.heap.size w3 wx)
                    case first =>
                      by_cases t1 : T < 0
                      · have HBq := Lib.hid (H1.out t1)
                        have t2 : ¬ T = 0 := by omega
                        clear H1 H2 H3
                        refine wp_region_held_drew (S := fun W => Below w3.heap.size w3 W) (by kernel_rfl) ?_ (fun hHeld => ?_); focus ((try dsimp only); exact (Below.refl _ _).drew)
                        have hHeld : Below w3.heap.size w3 _ := hHeld
                        obtain ⟨wD, hwD⟩ : ∃ wD, w3.drew = wD := ⟨_, rfl⟩
                        rw [hwD] at hHeld ⊢
                        clear hwD
                        (refine wpAnyH_take (i := 0) (v := ?_) rfl (by kernel_rfl) (by kernel_rfl) (by kernel_rfl) (fun _ _ _ h => h) (Or.inl ⟨rfl, ?_⟩) (by assumption) ?_; rotate_left; focus (intro W hSw; (try dsimp only at hSw); obtain ⟨i0, i1, i2, i3, i4, i5⟩ := HCI.out _ (below_after hSw HBn.out); go_simp; try (with_reducible rfl))); (try simp only [Act.put, List.getElem_toArray, List.getElem_cons_succ, List.getElem_cons_zero, List.setIfInBounds_toArray, List.set_cons_zero, List.set_cons_succ])
                        (refine wpAnyH_take (i := 1) (v := ?_) rfl (by kernel_rfl) (by kernel_rfl) (by kernel_rfl) (fun _ _ _ h => h) (Or.inl ⟨rfl, ?_⟩) (by assumption) ?_; rotate_left; focus (intro W hSw; (try dsimp only at hSw); obtain ⟨i0, i1, i2, i3, i4, i5⟩ := HCI.out _ (below_after hSw HBn.out); go_simp; try (with_reducible rfl))); (try simp only [Act.put, List.getElem_toArray, List.getElem_cons_succ, List.getElem_cons_zero, List.setIfInBounds_toArray, List.set_cons_zero, List.set_cons_succ])
                        (refine wpAnyH_take (i := 2) (v := ?_) rfl (by kernel_rfl) (by kernel_rfl) (by kernel_rfl) (fun _ _ _ h => h) (Or.inl ⟨rfl, ?_⟩) (by assumption) ?_; rotate_left; focus (intro W hSw; (try dsimp only at hSw); obtain ⟨i0, i1, i2, i3, i4, i5⟩ := HCI.out _ (below_after hSw HBn.out); go_simp; try (with_reducible rfl))); (try simp only [Act.put, List.getElem_toArray, List.getElem_cons_succ, List.getElem_cons_zero, List.setIfInBounds_toArray, List.set_cons_zero, List.set_cons_succ])
                        (refine wpAnyH_take (i := 3) rfl (by kernel_rfl) (by kernel_rfl) (by kernel_rfl) (fun _ _ _ h => h) (Or.inr ⟨rfl, rfl⟩) (by assumption) ?_); (try simp only [Act.put, List.getElem_toArray, List.getElem_cons_succ, List.getElem_cons_zero, List.setIfInBounds_toArray, List.set_cons_zero, List.set_cons_succ])
                        (refine wpAnyH_take (i := 4) rfl (by kernel_rfl) (by kernel_rfl) (by kernel_rfl) (fun _ _ _ h => h) (Or.inr ⟨rfl, rfl⟩) (by assumption) ?_); (try simp only [Act.put, List.getElem_toArray, List.getElem_cons_succ, List.getElem_cons_zero, List.setIfInBounds_toArray, List.set_cons_zero, List.set_cons_succ])
                        (refine wpAnyH_take (i := 5) rfl (by kernel_rfl) (by kernel_rfl) (by kernel_rfl) (fun _ _ _ h => h) (Or.inr ⟨rfl, rfl⟩) (by assumption) ?_); (try simp only [Act.put, List.getElem_toArray, List.getElem_cons_succ, List.getElem_cons_zero, List.setIfInBounds_toArray, List.set_cons_zero, List.set_cons_succ])
                        (refine wpAnyH_take (i := 6) rfl (by kernel_rfl) (by kernel_rfl) (by kernel_rfl) (fun _ _ _ h => h) (Or.inr ⟨rfl, rfl⟩) (by assumption) ?_); (try simp only [Act.put, List.getElem_toArray, List.getElem_cons_succ, List.getElem_cons_zero, List.setIfInBounds_toArray, List.set_cons_zero, List.set_cons_succ])
                        (refine wpAnyH_take (i := 7) rfl (by kernel_rfl) (by kernel_rfl) (by kernel_rfl) (fun _ _ _ h => h) (Or.inr ⟨rfl, rfl⟩) (by assumption) ?_); (try simp only [Act.put, List.getElem_toArray, List.getElem_cons_succ, List.getElem_cons_zero, List.setIfInBounds_toArray, List.set_cons_zero, List.set_cons_succ])
                        (refine wpAnyH_take (i := 8) rfl (by kernel_rfl) (by kernel_rfl) (by kernel_rfl) (fun _ _ _ h => h) (Or.inr ⟨rfl, rfl⟩) (by assumption) ?_); (try simp only [Act.put, List.getElem_toArray, List.getElem_cons_succ, List.getElem_cons_zero, List.setIfInBounds_toArray, List.set_cons_zero, List.set_cons_succ])
                        (refine wpAnyH_take (i := 9) rfl (by kernel_rfl) (by kernel_rfl) (by kernel_rfl) (fun _ _ _ h => h) (Or.inr ⟨rfl, rfl⟩) (by assumption) ?_); (try simp only [Act.put, List.getElem_toArray, List.getElem_cons_succ, List.getElem_cons_zero, List.setIfInBounds_toArray, List.set_cons_zero, List.set_cons_succ])
                        (refine wpAnyH_take (i := 10) rfl (by kernel_rfl) (by kernel_rfl) (by kernel_rfl) (fun _ _ _ h => h) (Or.inr ⟨rfl, rfl⟩) (by assumption) ?_); (try simp only [Act.put, List.getElem_toArray, List.getElem_cons_succ, List.getElem_cons_zero, List.setIfInBounds_toArray, List.set_cons_zero, List.set_cons_succ])
                        (refine wpAnyH_take (i := 11) rfl (by kernel_rfl) (by kernel_rfl) (by kernel_rfl) (fun _ _ _ h => h) (Or.inr ⟨rfl, rfl⟩) (by assumption) ?_); (try simp only [Act.put, List.getElem_toArray, List.getElem_cons_succ, List.getElem_cons_zero, List.setIfInBounds_toArray, List.set_cons_zero, List.set_cons_succ])
                        (refine wpAnyH_take (i := 12) rfl (by kernel_rfl) (by kernel_rfl) (by kernel_rfl) (fun _ _ _ h => h) (Or.inr ⟨rfl, rfl⟩) (by assumption) ?_); (try simp only [Act.put, List.getElem_toArray, List.getElem_cons_succ, List.getElem_cons_zero, List.setIfInBounds_toArray, List.set_cons_zero, List.set_cons_succ])
                        (refine wpAnyH_take (i := 13) rfl (by kernel_rfl) (by kernel_rfl) (by kernel_rfl) (fun _ _ _ h => h) (Or.inr ⟨rfl, rfl⟩) (by assumption) ?_); (try simp only [Act.put, List.getElem_toArray, List.getElem_cons_succ, List.getElem_cons_zero, List.setIfInBounds_toArray, List.set_cons_zero, List.set_cons_succ])
                        (refine wpAnyH_take (i := 14) rfl (by kernel_rfl) (by kernel_rfl) (by kernel_rfl) (fun _ _ _ h => h) (Or.inr ⟨rfl, rfl⟩) (by assumption) ?_); (try simp only [Act.put, List.getElem_toArray, List.getElem_cons_succ, List.getElem_cons_zero, List.setIfInBounds_toArray, List.set_cons_zero, List.set_cons_succ])
                        (refine wpAnyH_take (i := 15) rfl (by kernel_rfl) (by kernel_rfl) (by kernel_rfl) (fun _ _ _ h => h) (Or.inr ⟨rfl, rfl⟩) (by assumption) ?_); (try simp only [Act.put, List.getElem_toArray, List.getElem_cons_succ, List.getElem_cons_zero, List.setIfInBounds_toArray, List.set_cons_zero, List.set_cons_succ])
                        (refine wpAnyH_take (i := 16) rfl (by kernel_rfl) (by kernel_rfl) (by kernel_rfl) (fun _ _ _ h => h) (Or.inr ⟨rfl, rfl⟩) (by assumption) ?_); (try simp only [Act.put, List.getElem_toArray, List.getElem_cons_succ, List.getElem_cons_zero, List.setIfInBounds_toArray, List.set_cons_zero, List.set_cons_succ])
                        (refine wpAnyH_take (i := 17) (v := ?_) rfl (by kernel_rfl) (by kernel_rfl) (by kernel_rfl) (fun _ _ _ h => h) (Or.inl ⟨rfl, ?_⟩) (by assumption) ?_; rotate_left; focus (intro W hSw; (try dsimp only at hSw); obtain ⟨i0, i1, i2, i3, i4, i5⟩ := HCI.out _ (below_after hSw HBn.out); go_simp; try (with_reducible rfl))); (try simp only [Act.put, List.getElem_toArray, List.getElem_cons_succ, List.getElem_cons_zero, List.setIfInBounds_toArray, List.set_cons_zero, List.set_cons_succ])
                        refine wpAnyH_done (by kernel_rfl) ?_ _
                        go_wp2_with fail
                        go_meet
                        exact ⟨by first | rfl | rw [HBq.out], hHeld⟩
                      · by_cases t2 : T = 0
                        · have HBq := Lib.hid (H3.out t2)
                          clear H1 H2 H3
                          subst t2
                          have t3 : ((0 : Int) == 0) = true := rfl
                          refine wp_region_held_drew (S := fun W => Below w3.heap.size w3 W) (by kernel_rfl) ?_ (fun hHeld => ?_); focus ((try dsimp only); exact (Below.refl _ _).drew)
                          have hHeld : Below w3.heap.size w3 _ := hHeld
                          obtain ⟨wD, hwD⟩ : ∃ wD, w3.drew = wD := ⟨_, rfl⟩
                          rw [hwD] at hHeld ⊢
                          clear hwD
                          (refine wpAnyH_take (i := 0) (v := ?_) rfl (by kernel_rfl) (by kernel_rfl) (by kernel_rfl) (fun _ _ _ h => h) (Or.inl ⟨rfl, ?_⟩) (by assumption) ?_; rotate_left; focus (intro W hSw; (try dsimp only at hSw); obtain ⟨i0, i1, i2, i3, i4, i5⟩ := HCI.out _ (below_after hSw HBn.out); go_simp; try (with_reducible rfl))); (try simp only [Act.put, List.getElem_toArray, List.getElem_cons_succ, List.getElem_cons_zero, List.setIfInBounds_toArray, List.set_cons_zero, List.set_cons_succ])
                          (refine wpAnyH_take (i := 1) (v := ?_) rfl (by kernel_rfl) (by kernel_rfl) (by kernel_rfl) (fun _ _ _ h => h) (Or.inl ⟨rfl, ?_⟩) (by assumption) ?_; rotate_left; focus (intro W hSw; (try dsimp only at hSw); obtain ⟨i0, i1, i2, i3, i4, i5⟩ := HCI.out _ (below_after hSw HBn.out); go_simp; try (with_reducible rfl))); (try simp only [Act.put, List.getElem_toArray, List.getElem_cons_succ, List.getElem_cons_zero, List.setIfInBounds_toArray, List.set_cons_zero, List.set_cons_succ])
                          (refine wpAnyH_take (i := 2) (v := ?_) rfl (by kernel_rfl) (by kernel_rfl) (by kernel_rfl) (fun _ _ _ h => h) (Or.inl ⟨rfl, ?_⟩) (by assumption) ?_; rotate_left; focus (intro W hSw; (try dsimp only at hSw); obtain ⟨i0, i1, i2, i3, i4, i5⟩ := HCI.out _ (below_after hSw HBn.out); go_simp; try (with_reducible rfl))); (try simp only [Act.put, List.getElem_toArray, List.getElem_cons_succ, List.getElem_cons_zero, List.setIfInBounds_toArray, List.set_cons_zero, List.set_cons_succ])
                          (refine wpAnyH_take (i := 3) (v := ?_) rfl (by kernel_rfl) (by kernel_rfl) (by kernel_rfl) (fun _ _ _ h => h) (Or.inl ⟨rfl, ?_⟩) (by assumption) ?_; rotate_left; focus (intro W hSw; (try dsimp only at hSw); obtain ⟨i0, i1, i2, i3, i4, i5⟩ := HCI.out _ (below_after hSw HBn.out); go_simp; try (with_reducible rfl))); (try simp only [Act.put, List.getElem_toArray, List.getElem_cons_succ, List.getElem_cons_zero, List.setIfInBounds_toArray, List.set_cons_zero, List.set_cons_succ])
                          (refine wpAnyH_take (i := 4) (v := ?_) rfl (by kernel_rfl) (by kernel_rfl) (by kernel_rfl) (fun _ _ _ h => h) (Or.inl ⟨rfl, ?_⟩) (by assumption) ?_; rotate_left; focus (intro W hSw; (try dsimp only at hSw); obtain ⟨i0, i1, i2, i3, i4, i5⟩ := HCI.out _ (below_after hSw HBn.out); go_simp; try (with_reducible rfl))); (try simp only [Act.put, List.getElem_toArray, List.getElem_cons_succ, List.getElem_cons_zero, List.setIfInBounds_toArray, List.set_cons_zero, List.set_cons_succ])
                          (refine wpAnyH_take (i := 5) (v := ?_) rfl (by kernel_rfl) (by kernel_rfl) (by kernel_rfl) (fun _ _ _ h => h) (Or.inl ⟨rfl, ?_⟩) (by assumption) ?_; rotate_left; focus (intro W hSw; (try dsimp only at hSw); obtain ⟨i0, i1, i2, i3, i4, i5⟩ := HCI.out _ (below_after hSw HBn.out); go_simp; try (with_reducible rfl))); (try simp only [Act.put, List.getElem_toArray, List.getElem_cons_succ, List.getElem_cons_zero, List.setIfInBounds_toArray, List.set_cons_zero, List.set_cons_succ])
                          (refine wpAnyH_take (i := 6) (v := ?_) rfl (by kernel_rfl) (by kernel_rfl) (by kernel_rfl) (fun _ _ _ h => h) (Or.inl ⟨rfl, ?_⟩) (by assumption) ?_; rotate_left; focus (intro W hSw; (try dsimp only at hSw); obtain ⟨i0, i1, i2, i3, i4, i5⟩ := HCI.out _ (below_after hSw HBn.out); go_simp; try (with_reducible rfl))); (try simp only [Act.put, List.getElem_toArray, List.getElem_cons_succ, List.getElem_cons_zero, List.setIfInBounds_toArray, List.set_cons_zero, List.set_cons_succ])
                          (refine wpAnyH_take (i := 7) (v := ?_) rfl (by kernel_rfl) (by kernel_rfl) (by kernel_rfl) (fun _ _ _ h => h) (Or.inl ⟨rfl, ?_⟩) (by assumption) ?_; rotate_left; focus (intro W hSw; (try dsimp only at hSw); obtain ⟨i0, i1, i2, i3, i4, i5⟩ := HCI.out _ (below_after hSw HBn.out); go_simp; try (with_reducible rfl))); (try simp only [Act.put, List.getElem_toArray, List.getElem_cons_succ, List.getElem_cons_zero, List.setIfInBounds_toArray, List.set_cons_zero, List.set_cons_succ])
                          (refine wpAnyH_take (i := 8) (v := ?_) rfl (by kernel_rfl) (by kernel_rfl) (by kernel_rfl) (fun _ _ _ h => h) (Or.inl ⟨rfl, ?_⟩) (by assumption) ?_; rotate_left; focus (intro W hSw; (try dsimp only at hSw); obtain ⟨i0, i1, i2, i3, i4, i5⟩ := HCI.out _ (below_after hSw HBn.out); go_simp; try (with_reducible rfl))); (try simp only [Act.put, List.getElem_toArray, List.getElem_cons_succ, List.getElem_cons_zero, List.setIfInBounds_toArray, List.set_cons_zero, List.set_cons_succ])
                          (refine wpAnyH_take (i := 9) (v := ?_) rfl (by kernel_rfl) (by kernel_rfl) (by kernel_rfl) (fun _ _ _ h => h) (Or.inl ⟨rfl, ?_⟩) (by assumption) ?_; rotate_left; focus (intro W hSw; (try dsimp only at hSw); obtain ⟨i0, i1, i2, i3, i4, i5⟩ := HCI.out _ (below_after hSw HBn.out); go_simp; try (with_reducible rfl))); (try simp only [Act.put, List.getElem_toArray, List.getElem_cons_succ, List.getElem_cons_zero, List.setIfInBounds_toArray, List.set_cons_zero, List.set_cons_succ])
                          (refine wpAnyH_take (i := 10) (v := ?_) rfl (by kernel_rfl) (by kernel_rfl) (by kernel_rfl) (fun _ _ _ h => h) (Or.inl ⟨rfl, ?_⟩) (by assumption) ?_; rotate_left; focus (intro W hSw; (try dsimp only at hSw); obtain ⟨i0, i1, i2, i3, i4, i5⟩ := HCI.out _ (below_after hSw HBn.out); go_simp; try (with_reducible rfl))); (try simp only [Act.put, List.getElem_toArray, List.getElem_cons_succ, List.getElem_cons_zero, List.setIfInBounds_toArray, List.set_cons_zero, List.set_cons_succ])
                          (refine wpAnyH_take (i := 12) (v := ?_) rfl (by kernel_rfl) (by kernel_rfl) (by kernel_rfl) (fun _ _ _ h => h) (Or.inl ⟨rfl, ?_⟩) (by assumption) ?_; rotate_left; focus (intro W hSw; (try dsimp only at hSw); obtain ⟨i0, i1, i2, i3, i4, i5⟩ := HCI.out _ (below_after hSw HBn.out); go_simp; try (with_reducible rfl))); (try simp only [Act.put, List.getElem_toArray, List.getElem_cons_succ, List.getElem_cons_zero, List.setIfInBounds_toArray, List.set_cons_zero, List.set_cons_succ])
                          (refine wpAnyH_take (i := 13) (v := ?_) rfl (by kernel_rfl) (by kernel_rfl) (by kernel_rfl) (fun _ _ _ h => h) (Or.inl ⟨rfl, ?_⟩) (by assumption) ?_; rotate_left; focus (intro W hSw; (try dsimp only at hSw); obtain ⟨i0, i1, i2, i3, i4, i5⟩ := HCI.out _ (below_after hSw HBn.out); go_simp; try (with_reducible rfl))); (try simp only [Act.put, List.getElem_toArray, List.getElem_cons_succ, List.getElem_cons_zero, List.setIfInBounds_toArray, List.set_cons_zero, List.set_cons_succ])
                          refine wpAnyH_ready (rs := [11]) (by kernel_rfl) (by simp) ?_; refine AllReadyH.cons rfl (fun K hK => ?_) AllReadyH.nil
                          go_simp; (go_at_call 133; refine (HFC.out _).mono ?_; rintro en yw0 ⟨rfl, hb2⟩); refine hK.out _ _ (below_after hb2 hHeld) (fun hHeld2 => ?_); clear hb2; (clear hHeld; rename _ => hHeld; clear hK K; have hHeld : Below w3.heap.size w3 _ := hHeld); (try simp only [Act.put, List.getElem_toArray, List.getElem_cons_succ, List.getElem_cons_zero, List.setIfInBounds_toArray, List.set_cons_zero, List.set_cons_succ])
                          refine wpAnyH_ready (rs := [14]) (by kernel_rfl) (by simp) ?_; refine AllReadyH.cons rfl (fun K hK => ?_) AllReadyH.nil
                          go_simp; (go_at_call 133; refine (HFP.out _).mono ?_; rintro en yw1 ⟨rfl, hb2⟩); refine hK.out _ _ (below_after hb2 hHeld) (fun hHeld2 => ?_); clear hb2; (clear hHeld; rename _ => hHeld; clear hK K; have hHeld : Below w3.heap.size w3 _ := hHeld); (try simp only [Act.put, List.getElem_toArray, List.getElem_cons_succ, List.getElem_cons_zero, List.setIfInBounds_toArray, List.set_cons_zero, List.set_cons_succ])
                          (refine wpAnyH_take (i := 15) (v := ?_) rfl (by kernel_rfl) (by kernel_rfl) (by kernel_rfl) (fun _ _ _ h => h) (Or.inl ⟨rfl, ?_⟩) (by assumption) ?_; rotate_left; focus (intro W hSw; (try dsimp only at hSw); obtain ⟨i0, i1, i2, i3, i4, i5⟩ := HCI.out _ (below_after hSw HBn.out); go_simp; try (with_reducible rfl))); (try simp only [Act.put, List.getElem_toArray, List.getElem_cons_succ, List.getElem_cons_zero, List.setIfInBounds_toArray, List.set_cons_zero, List.set_cons_succ])
                          (refine wpAnyH_take (i := 16) (v := ?_) rfl (by kernel_rfl) (by kernel_rfl) (by kernel_rfl) (fun _ _ _ h => h) (Or.inl ⟨rfl, ?_⟩) (by assumption) ?_; rotate_left; focus (intro W hSw; (try dsimp only at hSw); obtain ⟨i0, i1, i2, i3, i4, i5⟩ := HCI.out _ (below_after hSw HBn.out); go_simp; try (with_reducible rfl))); (try simp only [Act.put, List.getElem_toArray, List.getElem_cons_succ, List.getElem_cons_zero, List.setIfInBounds_toArray, List.set_cons_zero, List.set_cons_succ])
                          (refine wpAnyH_take (i := 17) (v := ?_) rfl (by kernel_rfl) (by kernel_rfl) (by kernel_rfl) (fun _ _ _ h => h) (Or.inl ⟨rfl, ?_⟩) (by assumption) ?_; rotate_left; focus (intro W hSw; (try dsimp only at hSw); obtain ⟨i0, i1, i2, i3, i4, i5⟩ := HCI.out _ (below_after hSw HBn.out); go_simp; try (with_reducible rfl))); (try simp only [Act.put, List.getElem_toArray, List.getElem_cons_succ, List.getElem_cons_zero, List.setIfInBounds_toArray, List.set_cons_zero, List.set_cons_succ])
                          refine wpAnyH_done (by kernel_rfl) ?_ _
                          go_wp2_with fail
                          go_meet
                          exact ⟨by first | rfl | rw [HBq.out], hHeld⟩
                        · have HBq := Lib.hid (H2.out (by omega) t2)
                          clear H1 H2 H3
                          have t3 : (T == 0) = false := by simpa using t2
                          refine wp_region_held_drew (S := fun W => Below w3.heap.size w3 W) (by kernel_rfl) ?_ (fun hHeld => ?_); focus ((try dsimp only); exact (Below.refl _ _).drew)
                          have hHeld : Below w3.heap.size w3 _ := hHeld
                          obtain ⟨wD, hwD⟩ : ∃ wD, w3.drew = wD := ⟨_, rfl⟩
                          rw [hwD] at hHeld ⊢
                          clear hwD
                          (refine wpAnyH_take (i := 0) (v := ?_) rfl (by kernel_rfl) (by kernel_rfl) (by kernel_rfl) (fun _ _ _ h => h) (Or.inl ⟨rfl, ?_⟩) (by assumption) ?_; rotate_left; focus (intro W hSw; (try dsimp only at hSw); obtain ⟨i0, i1, i2, i3, i4, i5⟩ := HCI.out _ (below_after hSw HBn.out); go_simp; try (with_reducible rfl))); (try simp only [Act.put, List.getElem_toArray, List.getElem_cons_succ, List.getElem_cons_zero, List.setIfInBounds_toArray, List.set_cons_zero, List.set_cons_succ])
                          (refine wpAnyH_take (i := 1) (v := ?_) rfl (by kernel_rfl) (by kernel_rfl) (by kernel_rfl) (fun _ _ _ h => h) (Or.inl ⟨rfl, ?_⟩) (by assumption) ?_; rotate_left; focus (intro W hSw; (try dsimp only at hSw); obtain ⟨i0, i1, i2, i3, i4, i5⟩ := HCI.out _ (below_after hSw HBn.out); go_simp; try (with_reducible rfl))); (try simp only [Act.put, List.getElem_toArray, List.getElem_cons_succ, List.getElem_cons_zero, List.setIfInBounds_toArray, List.set_cons_zero, List.set_cons_succ])
                          (refine wpAnyH_take (i := 2) (v := ?_) rfl (by kernel_rfl) (by kernel_rfl) (by kernel_rfl) (fun _ _ _ h => h) (Or.inl ⟨rfl, ?_⟩) (by assumption) ?_; rotate_left; focus (intro W hSw; (try dsimp only at hSw); obtain ⟨i0, i1, i2, i3, i4, i5⟩ := HCI.out _ (below_after hSw HBn.out); go_simp; try (with_reducible rfl))); (try simp only [Act.put, List.getElem_toArray, List.getElem_cons_succ, List.getElem_cons_zero, List.setIfInBounds_toArray, List.set_cons_zero, List.set_cons_succ])
                          (refine wpAnyH_take (i := 3) (v := ?_) rfl (by kernel_rfl) (by kernel_rfl) (by kernel_rfl) (fun _ _ _ h => h) (Or.inl ⟨rfl, ?_⟩) (by assumption) ?_; rotate_left; focus (intro W hSw; (try dsimp only at hSw); obtain ⟨i0, i1, i2, i3, i4, i5⟩ := HCI.out _ (below_after hSw HBn.out); go_simp; try (with_reducible rfl))); (try simp only [Act.put, List.getElem_toArray, List.getElem_cons_succ, List.getElem_cons_zero, List.setIfInBounds_toArray, List.set_cons_zero, List.set_cons_succ])
                          (refine wpAnyH_take (i := 4) (v := ?_) rfl (by kernel_rfl) (by kernel_rfl) (by kernel_rfl) (fun _ _ _ h => h) (Or.inl ⟨rfl, ?_⟩) (by assumption) ?_; rotate_left; focus (intro W hSw; (try dsimp only at hSw); obtain ⟨i0, i1, i2, i3, i4, i5⟩ := HCI.out _ (below_after hSw HBn.out); go_simp; try (with_reducible rfl))); (try simp only [Act.put, List.getElem_toArray, List.getElem_cons_succ, List.getElem_cons_zero, List.setIfInBounds_toArray, List.set_cons_zero, List.set_cons_succ])
                          (refine wpAnyH_take (i := 5) (v := ?_) rfl (by kernel_rfl) (by kernel_rfl) (by kernel_rfl) (fun _ _ _ h => h) (Or.inl ⟨rfl, ?_⟩) (by assumption) ?_; rotate_left; focus (intro W hSw; (try dsimp only at hSw); obtain ⟨i0, i1, i2, i3, i4, i5⟩ := HCI.out _ (below_after hSw HBn.out); go_simp; try (with_reducible rfl))); (try simp only [Act.put, List.getElem_toArray, List.getElem_cons_succ, List.getElem_cons_zero, List.setIfInBounds_toArray, List.set_cons_zero, List.set_cons_succ])
                          (refine wpAnyH_take (i := 6) rfl (by kernel_rfl) (by kernel_rfl) (by kernel_rfl) (fun _ _ _ h => h) (Or.inr ⟨rfl, rfl⟩) (by assumption) ?_); (try simp only [Act.put, List.getElem_toArray, List.getElem_cons_succ, List.getElem_cons_zero, List.setIfInBounds_toArray, List.set_cons_zero, List.set_cons_succ])
                          (refine wpAnyH_take (i := 7) rfl (by kernel_rfl) (by kernel_rfl) (by kernel_rfl) (fun _ _ _ h => h) (Or.inr ⟨rfl, rfl⟩) (by assumption) ?_); (try simp only [Act.put, List.getElem_toArray, List.getElem_cons_succ, List.getElem_cons_zero, List.setIfInBounds_toArray, List.set_cons_zero, List.set_cons_succ])
                          (refine wpAnyH_take (i := 8) rfl (by kernel_rfl) (by kernel_rfl) (by kernel_rfl) (fun _ _ _ h => h) (Or.inr ⟨rfl, rfl⟩) (by assumption) ?_); (try simp only [Act.put, List.getElem_toArray, List.getElem_cons_succ, List.getElem_cons_zero, List.setIfInBounds_toArray, List.set_cons_zero, List.set_cons_succ])
                          (refine wpAnyH_take (i := 9) rfl (by kernel_rfl) (by kernel_rfl) (by kernel_rfl) (fun _ _ _ h => h) (Or.inr ⟨rfl, rfl⟩) (by assumption) ?_); (try simp only [Act.put, List.getElem_toArray, List.getElem_cons_succ, List.getElem_cons_zero, List.setIfInBounds_toArray, List.set_cons_zero, List.set_cons_succ])
                          (refine wpAnyH_take (i := 10) rfl (by kernel_rfl) (by kernel_rfl) (by kernel_rfl) (fun _ _ _ h => h) (Or.inr ⟨rfl, rfl⟩) (by assumption) ?_); (try simp only [Act.put, List.getElem_toArray, List.getElem_cons_succ, List.getElem_cons_zero, List.setIfInBounds_toArray, List.set_cons_zero, List.set_cons_succ])
                          (refine wpAnyH_take (i := 11) rfl (by kernel_rfl) (by kernel_rfl) (by kernel_rfl) (fun _ _ _ h => h) (Or.inr ⟨rfl, rfl⟩) (by assumption) ?_); (try simp only [Act.put, List.getElem_toArray, List.getElem_cons_succ, List.getElem_cons_zero, List.setIfInBounds_toArray, List.set_cons_zero, List.set_cons_succ])
                          (refine wpAnyH_take (i := 12) rfl (by kernel_rfl) (by kernel_rfl) (by kernel_rfl) (fun _ _ _ h => h) (Or.inr ⟨rfl, rfl⟩) (by assumption) ?_); (try simp only [Act.put, List.getElem_toArray, List.getElem_cons_succ, List.getElem_cons_zero, List.setIfInBounds_toArray, List.set_cons_zero, List.set_cons_succ])
                          (refine wpAnyH_take (i := 13) rfl (by kernel_rfl) (by kernel_rfl) (by kernel_rfl) (fun _ _ _ h => h) (Or.inr ⟨rfl, rfl⟩) (by assumption) ?_); (try simp only [Act.put, List.getElem_toArray, List.getElem_cons_succ, List.getElem_cons_zero, List.setIfInBounds_toArray, List.set_cons_zero, List.set_cons_succ])
                          (refine wpAnyH_take (i := 14) rfl (by kernel_rfl) (by kernel_rfl) (by kernel_rfl) (fun _ _ _ h => h) (Or.inr ⟨rfl, rfl⟩) (by assumption) ?_); (try simp only [Act.put, List.getElem_toArray, List.getElem_cons_succ, List.getElem_cons_zero, List.setIfInBounds_toArray, List.set_cons_zero, List.set_cons_succ])
                          (refine wpAnyH_take (i := 15) rfl (by kernel_rfl) (by kernel_rfl) (by kernel_rfl) (fun _ _ _ h => h) (Or.inr ⟨rfl, rfl⟩) (by assumption) ?_); (try simp only [Act.put, List.getElem_toArray, List.getElem_cons_succ, List.getElem_cons_zero, List.setIfInBounds_toArray, List.set_cons_zero, List.set_cons_succ])
                          (refine wpAnyH_take (i := 16) (v := ?_) rfl (by kernel_rfl) (by kernel_rfl) (by kernel_rfl) (fun _ _ _ h => h) (Or.inl ⟨rfl, ?_⟩) (by assumption) ?_; rotate_left; focus (intro W hSw; (try dsimp only at hSw); obtain ⟨i0, i1, i2, i3, i4, i5⟩ := HCI.out _ (below_after hSw HBn.out); go_simp; try (with_reducible rfl))); (try simp only [Act.put, List.getElem_toArray, List.getElem_cons_succ, List.getElem_cons_zero, List.setIfInBounds_toArray, List.set_cons_zero, List.set_cons_succ])
                          (refine wpAnyH_take (i := 17) (v := ?_) rfl (by kernel_rfl) (by kernel_rfl) (by kernel_rfl) (fun _ _ _ h => h) (Or.inl ⟨rfl, ?_⟩) (by assumption) ?_; rotate_left; focus (intro W hSw; (try dsimp only at hSw); obtain ⟨i0, i1, i2, i3, i4, i5⟩ := HCI.out _ (below_after hSw HBn.out); go_simp; try (with_reducible rfl))); (try simp only [Act.put, List.getElem_toArray, List.getElem_cons_succ, List.getElem_cons_zero, List.setIfInBounds_toArray, List.set_cons_zero, List.set_cons_succ])
                          refine wpAnyH_done (by kernel_rfl) ?_ _
                          go_wp2_with fail
                          go_meet
                          exact ⟨by first | rfl | rw [HBq.out], hHeld⟩
                    case rest =>
                      obtain ⟨rfl, hBx⟩ := hcut
                      obtain ⟨w4, rfl⟩ : ∃ w2, w2 = wc := ⟨_, rfl⟩
                      have HB4 := Lib.hid (below_after hBx HB3.out)
                      have HBq4 := Lib.hid (below_after HB4.out HBi.out)
                      have hs4 := HB4.out.size
                      clear hBx H1 H2 H3 HFC HFP
                      cases B
                      · have HS3 : Hid ((L.take (m + 1)).foldl (mst (A0, A1)) none = some (p0, p1)) := HS2.out
                        clear HS2
                        go_wp2_with fail
                        go_roundw
                        case rel => exact ⟨m + 1, true, p0, p1, by omega, rfl, by go_num, HS3.out, HPp.out, HP.out.below HB4.out, HBq4.out⟩
                        case measure => simp [intOf]; omega
                      · have HS3 : Hid ((L.take (m + 1)).foldl (mst (A0, A1)) none = some (C0, C1)) := HS2.out
                        clear HS2
                        obtain ⟨i0, i1, i2, i3, i4, i5⟩ := HCI.out _ HB4.out
                        obtain ⟨_, ⟨f0, f1⟩, fl⟩ := HP.out.below HB4.out
                        go_wp2_with fail
                        go_roundw
                        case rel =>
                          have hbb := HBq4.out
                          have hN2 := HQs.out
                          refine ⟨m + 1, true, C0, C1, by omega, rfl, by go_num, HS3.out, HPC.out, ((HP.out.below HB4.out).set0 C0).set1 C1, by (repeat' (first | (with_reducible exact Below.refl _ _) | (with_reducible refine Below.alloc ?_ ?_ _) | (with_reducible refine Below.setCell ?_ ?_ _) | (with_reducible refine Below.drew ?_) | (with_reducible refine below_drewN ?_ _) | (with_reducible assumption) | (with_reducible refine below_after (by with_reducible assumption) ?_) | go_size))⟩
                        case measure => simp [intOf]; omega
          · have hme : n = m := by omega
            subst hme
            have hmx : mnx L (A0, A1) = if fd = true then some (p0, p1) else none := by
              unfold mnx
              rw [← HFo2.out, List.take_of_length_le (by have := HN.out; omega)]
            have HBw := Lib.hid (below_after HBi.out HBq.out)
            have HWw := Lib.hid (below_after HBw.out HBo.out)
            have HOw := Lib.hid (HO.out.below HBw.out)
            have hsw := HWw.out.size
            have k4 : ¬ (n : Int) < (n : Int) := by omega
            cases fd
            · have hNF : (N0, N1) = (F0, F1) := by
                rcases HXj.out with hx | ⟨_, hx⟩
                · rw [hx] at hmx; simp at hmx
                · exact hx
              have hcl2 := HGO.out
              rw [if_pos hNF] at hcl2
              have hM : M = j + 1 := hcl.symm.trans hcl2
              subst hM
              clear hcl hcl2 hNF hmx HXj
              go_wp2_with fail
              refine bodyPost_ret (v := .slice (some ⟨gv, 0, none⟩) (j + 1) vc) (by simp (maxDischargeDepth := 8) [results, Try.results99, go_sem, *]) rfl ?_
              exact ⟨_, rfl, own_lower HOw.out HBe.out.size, below_after HWw.out HBe.out⟩
            · have hpN : (p0, p1) = (N0, N1) := by
                rcases HXj.out with hx | ⟨hx, _⟩
                · rw [hx] at hmx; simpa using hmx.symm
                · rw [hx] at hmx; simp at hmx
              obtain ⟨rfl, rfl⟩ := Prod.mk.inj hpN
              obtain ⟨⟨n0, n1⟩, _, nl⟩ := HP.out
              obtain ⟨⟨f0, f1⟩, _, fl⟩ := HFo.out.below HBw.out
              have eqq := fun w => eq_pt p0 p1 F0 F1 w
              have hbq := beq_pt (p0, p1) (F0, F1)
              dsimp only at hbq
              clear hmx HXj hpN
              by_cases he : (p0, p1) = (F0, F1)
              · rw [decide_eq_true he] at hbq
                rw [hbq] at eqq
                have hcl2 := HGO.out
                rw [if_pos he] at hcl2
                have hM : M = j + 1 := hcl.symm.trans hcl2
                subst hM
                clear hcl hcl2 he hbq
                go_wp2_with fail
                refine bodyPost_ret (v := .slice (some ⟨gv, 0, none⟩) (j + 1) vc) (by simp (maxDischargeDepth := 8) [results, Try.results99, go_sem, *]) rfl ?_
                exact ⟨_, rfl, own_lower HOw.out HBe.out.size, below_after HWw.out HBe.out⟩
              · rw [decide_eq_false he] at hbq
                rw [hbq] at eqq
                have hcl2 := HGO.out
                rw [if_neg he] at hcl2
                have hM : Hid (clo (F0, F1) h (n - (j + 1)) (j + 1 + 1) = M) := hcl2.symm.trans hcl
                clear hcl hcl2 he hbq
                by_cases hjn : j + 1 < n
                · have qz : ¬ (n : Int) < (j : Int) + 1 + 1 := by omega
                  go_wp2_with (at_builtin; refine wpList_app_F0 w1 (a0 := p0) (a1 := p1) rfl _ _ rfl (World.ownsRow.alloc HOw.out _) (by go_cell) (by go_cell) (HWw.out.alloc hsw _) rfl rfl (by omega) ?_; clear n0 n1 nl f0 f1 fl; intro v' w5 hO5 hB5; obtain ⟨va', vc', rfl, _⟩ := own_viewF hO5; have hO5 := Lib.hid hO5; have hB5 := Lib.hid hB5)
                  go_roundw
                  case rel => exact ⟨j + 1, va', vc', rfl, hjn, hM.out, by rw [HSN.out, flat_append]; exact hO5.out, hB5.out⟩
                  case measure => simp [slLen]; omega
                · have qz : (n : Int) < (j : Int) + 1 + 1 := by omega
                  have hM2 : M = j + 1 + 1 := by
                    have := hM.out
                    rw [show n - (j + 1) = 0 from by omega] at this
                    exact this.symm
                  subst hM2
                  clear hM
                  go_wp2_with (at_builtin; refine wpList_app_F0 w1 (a0 := p0) (a1 := p1) rfl _ _ rfl (World.ownsRow.alloc HOw.out _) (by go_cell) (by go_cell) (HWw.out.alloc hsw _) rfl rfl (by omega) ?_; clear n0 n1 nl f0 f1 fl; intro v' w5 hO5 hB5; obtain ⟨va', vc', rfl, _⟩ := own_viewF hO5; have hO5 := Lib.hid hO5; have hB5 := Lib.hid hB5)
                  refine bodyPost_ret (v := .slice va' (j + 1 + 1) vc') (by simp (maxDischargeDepth := 8) [results, Try.results99, go_sem, *]) rfl ?_
                  exact ⟨_, rfl, by rw [HSN.out, flat_append]; exact own_lower hO5.out HBe.out.size, below_after hB5.out HBe.out⟩
end Go.Proofs.Ytmjhejmkmdgikaa
