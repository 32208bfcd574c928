/-
  The least of lists that begin with different points (own work): slices.MinFunc over lists, leastList.
-/
import Derived.Test.YtmjhejmkmdgikaaPgOp
import Derived.Test.YtmjhejmkmdgikaaPgY
namespace Go.Proofs.Ytmjhejmkmdgikaa
open Go.ChangeShapes Go.WideShapes Go.ChangeAt Go.RowKit
set_option linter.unusedVariables false
set_option maxRecDepth 100000
set_option linter.unusedSimpArgs false
set_option maxRecDepth 100000

theorem ixm_low {ps : List (Int × Int)} : ∀ k, 1 ≤ k → ixm ps k < k
  | k + 1, _ => by
    unfold ixm
    split
    · omega
    · by_cases h : 1 ≤ k
      · have := ixm_low (ps := ps) k h; omega
      · have : k = 0 := by omega
        subst this
        show 0 < 1
        omega
set_option maxHeartbeats 3200000 in
theorem minLists_any (gl n nl b : Nat) (gs cs : Nat → Nat) (ps : List (Int × Int)) (w : World) (h1 : 1 ≤ n) (hm : n ≤ 12) (hgl : gl < w.heap.size)
    (hl : ∀ j, j < n → w.cell? ⟨gl, j, none⟩ = some (.slice (some ⟨gs j, 0, none⟩) n (cs j)) ∧ w.cell? ⟨gs j, 0, none⟩ = some (.int .i64 (ps.getD j (0, 0)).1) ∧ w.cell? ⟨gs j, 1, none⟩ = some (.int .i64 (ps.getD j (0, 0)).2))
    (hd : ∀ i j, i < j → j < n → ps.getD j (0, 0) ≠ ps.getD i (0, 0)) (hb : w.cell? ⟨b, 0, none⟩ = some (.func (.func 138) #[] #[])) :
    Calls Try.prog 148 #[.slice (some ⟨gl, 0, none⟩) n nl, .func (.func 149) #[] #[.pointer (some ⟨b, 0, none⟩)]] w fun e w' => e = .returned (.slice (some ⟨gs (ixm ps n), 0, none⟩) n (cs (ixm ps n))) ∧ Below w.heap.size w w' := by
  have hbl := World.block_lt_of_cell? w _ hb
  have HL : Hid (∀ W, Below w.heap.size w W → (∀ j, j < n → W.cell? ⟨gl, j, none⟩ = some (.slice (some ⟨gs j, 0, none⟩) n (cs j)) ∧ W.cell? ⟨gs j, 0, none⟩ = some (.int .i64 (ps.getD j (0, 0)).1) ∧ W.cell? ⟨gs j, 1, none⟩ = some (.int .i64 (ps.getD j (0, 0)).2)) ∧ W.cell? ⟨b, 0, none⟩ = some (.func (.func 138) #[] #[])) := fun W hW => by
    refine ⟨fun j hj => ?_, (hW.cell (p := ⟨b, 0, none⟩) hbl).trans hb⟩
    obtain ⟨a, c, d⟩ := hl j hj
    have hg := World.block_lt_of_cell? w _ c
    exact ⟨(hW.cell (p := ⟨gl, j, none⟩) hgl).trans a, (hW.cell (p := ⟨gs j, 0, none⟩) hg).trans c, (hW.cell (p := ⟨gs j, 1, none⟩) hg).trans d⟩
  have HD := Lib.hid hd
  have c0 := (hl 0 (by omega)).1
  have q0 : ¬ (n : Int) < 1 := by omega
  have q1 : (0 : Int) < (n : Int) := by omega
  have H1 : Hid (ixm ps 1 = 0) := by
    have := ixm_low (ps := ps) 1 (by omega)
    show ixm ps 1 = 0
    omega
  have HLO : Hid (∀ k, 1 ≤ k → ixm ps k < k) := fun k hk => ixm_low k hk
  have HSU := Lib.hid (ixm_succ ps)
  clear hl hd hb
  go_enter Try.func148, Try.ntmps148
  go_wp2_with fail
  go_loopw [5, 6] (fun t5 t6 wr => ∃ k : Nat, 1 ≤ k ∧ k ≤ n ∧ t6 = .int .i64 k ∧ t5 = .slice (some ⟨gs (ixm ps k), 0, none⟩) n (cs (ixm ps k)) ∧ Below w.heap.size w wr) (fun _ t6 _ => n - (intOf t6).toNat)
  case atStart => exact ⟨1, by omega, h1, by go_num, by rw [H1.out], Below.refl _ _⟩
  case round =>
    obtain ⟨k, hk1, hk, rfl, rfl, hbel⟩ := hrel
    have HBe := Lib.hid hbel
    by_cases hlt : k < n
    · obtain ⟨hls, hbx⟩ := HL.out wr hbel
      have hJ := HLO.out k hk1
      obtain ⟨a0, a1, a2⟩ := hls k hlt
      obtain ⟨_, b1, b2⟩ := hls (ixm ps k) (by omega)
      have hne := HD.out (ixm ps k) k hJ hlt
      have HS := Lib.hid (HSU.out k)
      obtain ⟨J, hJe⟩ : ∃ J, ixm ps k = J := ⟨_, rfl⟩
      rw [hJe] at b1 b2 hne HS ⊢
      obtain ⟨X0, X1, hX⟩ : ∃ x y, ps.getD k (0, 0) = (x, y) := ⟨_, _, rfl⟩
      obtain ⟨Y0, Y1, hY⟩ : ∃ x y, ps.getD J (0, 0) = (x, y) := ⟨_, _, rfl⟩
      rw [hX] at a1 a2
      rw [hY] at b1 b2
      rw [hX, hY] at HS hne
      have HC := Lib.hid (lessF_any (gs k) (gs J) (cs k) (cs J) n b X0 X1 Y0 Y1 wr h1 hne a1 a2 b1 b2 hbx)
      obtain ⟨r, hr⟩ : ∃ r, cmP (X0, X1) (Y0, Y1) = r := ⟨_, rfl⟩
      have HR : Hid (r < 0 ↔ lxlt (X0, X1) (Y0, Y1) = true) := by rw [← hr]; exact cmP_lt _ _
      rw [hr] at HC
      have q3 : (0 : Int) ≤ (k : Int) := by omega
      have q4 : (k : Int) < (n : Int) := by omega
      clear hr hX hY a1 a2 b1 b2 hne hls hbx hJ hbel hJe
      by_cases hr0 : r < 0
      · have HS2 : Hid (ixm ps (k + 1) = k) := by show _ = _; rw [HS.out, if_pos (HR.out.1 hr0)]
        clear HS
        go_wp2_with (first | (go_at_call 149; refine HC.out.mono ?_; rintro e wn ⟨rfl, hb2⟩; have HB2 := Lib.hid (below_after hb2 HBe.out); have a0 := ((HL.out _ HB2.out).1 k hlt).1; clear hb2))
        go_roundw
        case rel => exact ⟨k + 1, by omega, by omega, by go_num, by rw [HS2.out], HB2.out⟩
        case measure => simp [intOf]; omega
      · have hf : ¬ lxlt (X0, X1) (Y0, Y1) = true := fun h => hr0 (HR.out.2 h)
        have HS2 : Hid (ixm ps (k + 1) = J) := by show _ = _; rw [HS.out, if_neg hf]
        clear HS hf
        go_wp2_with (first | (go_at_call 149; refine HC.out.mono ?_; rintro e wn ⟨rfl, hb2⟩; have HB2 := Lib.hid (below_after hb2 HBe.out); clear hb2))
        go_roundw
        case rel => exact ⟨k + 1, by omega, by omega, by go_num, by rw [HS2.out], HB2.out⟩
        case measure => simp [intOf]; omega
    · have hkn : n = k := by omega
      subst hkn
      have q3 : ¬ (n : Int) < (n : Int) := by omega
      go_wp2_with fail
      go_ret
      exact ⟨rfl, HBe.out⟩
theorem leastList_any (gl n nl : Nat) (gs cs : Nat → Nat) (ps : List (Int × Int)) (w : World) (h1 : 1 ≤ n) (hm : n ≤ 12) (hgl : gl < w.heap.size)
    (hl : ∀ j, j < n → w.cell? ⟨gl, j, none⟩ = some (.slice (some ⟨gs j, 0, none⟩) n (cs j)) ∧ w.cell? ⟨gs j, 0, none⟩ = some (.int .i64 (ps.getD j (0, 0)).1) ∧ w.cell? ⟨gs j, 1, none⟩ = some (.int .i64 (ps.getD j (0, 0)).2))
    (hd : ∀ i j, i < j → j < n → ps.getD j (0, 0) ≠ ps.getD i (0, 0)) :
    Calls Try.prog 137 #[.slice (some ⟨gl, 0, none⟩) n nl, .func (.func 138) #[] #[]] w fun e w' => e = .returned (.slice (some ⟨gs (ixm ps n), 0, none⟩) n (cs (ixm ps n))) ∧ Below w.heap.size w w' := by
  have HM : Hid (∀ W, Below w.heap.size w W → W.cell? ⟨w.heap.size, 0, none⟩ = some (.func (.func 138) #[] #[]) → Calls Try.prog 148 #[.slice (some ⟨gl, 0, none⟩) n nl, .func (.func 149) #[] #[.pointer (some ⟨w.heap.size, 0, none⟩)]] W fun e w' => e = .returned (.slice (some ⟨gs (ixm ps n), 0, none⟩) n (cs (ixm ps n))) ∧ Below W.heap.size W w') := fun W hW hb =>
    minLists_any gl n nl w.heap.size gs cs ps W h1 hm (by have := hW.size; omega) (fun j hj => by
      obtain ⟨a, c, d⟩ := hl j hj
      have hg := World.block_lt_of_cell? w _ c
      exact ⟨(hW.cell (p := ⟨gl, j, none⟩) hgl).trans a, (hW.cell (p := ⟨gs j, 0, none⟩) hg).trans c, (hW.cell (p := ⟨gs j, 1, none⟩) hg).trans d⟩) hd hb
  clear hl hd
  go_enter Try.func137, Try.ntmps137
  go_wp2_with (go_at_call 148; refine (HM.out _ ((Below.refl _ _).alloc (Nat.le_refl _) _) (by go_cell)).mono ?_; rintro e wn ⟨rfl, hb2⟩)
  go_ret
  exact ⟨rfl, below_after hb2 ((Below.refl _ _).alloc (Nat.le_refl _) _)⟩
end Go.Proofs.Ytmjhejmkmdgikaa
