/-
  FareyList in the model (own work).
-/
import Derived.Test.YtcaleapedomfmaaFlM
import Derived.Test.YtcaleapedomfmaaAppK
import Derived.Test.YtcaleapedomfmaaAlg2
import Derived.Deep.DeepCutAuto
namespace Go.Proofs.Ytcaleapedomfmaa
open Go.ChangeShapes Go.WideShapes Go.ChangeAt Go.RowKit
set_option linter.unusedVariables false
set_option linter.unusedSimpArgs false
set_option maxRecDepth 100000

/-- Where the model stands: the list's last two fractions can be read. -/
def Sx (w : World) (g m : Nat) (P0 P1 C0 C1 : Int) (W : World) : Prop := Below w.heap.size w W ∧ W.cell? ⟨g, m * 2, none⟩ = some (.int .i64 P0) ∧ W.cell? ⟨g, m * 2 + 1, none⟩ = some (.int .i64 P1) ∧ W.cell? ⟨g, (m + 1) * 2, none⟩ = some (.int .i64 C0) ∧ W.cell? ⟨g, (m + 1) * 2 + 1, none⟩ = some (.int .i64 C1)
theorem Sx.below {w : World} {g m : Nat} {P0 P1 C0 C1 : Int} {W W' : World} (h : Sx w g m P0 P1 C0 C1 W) (hb : Below W.heap.size W W') : Sx w g m P0 P1 C0 C1 W' := by
  obtain ⟨h0, h1, h2, h3, h4⟩ := h
  have lg : g < W.heap.size := World.block_lt_of_cell? _ _ h1
  exact ⟨below_after hb h0, (hb.cell (p := ⟨g, m * 2, none⟩) lg).trans h1, (hb.cell (p := ⟨g, m * 2 + 1, none⟩) lg).trans h2, (hb.cell (p := ⟨g, (m + 1) * 2, none⟩) lg).trans h3, (hb.cell (p := ⟨g, (m + 1) * 2 + 1, none⟩) lg).trans h4⟩
theorem Sx.kept {w : World} {g m : Nat} {P0 P1 C0 C1 : Int} {W W' : World} (h : Sx w g m P0 P1 C0 C1 W) (hk : ∀ j, j < (m + 2) * 2 → W'.cell? ⟨g, j, none⟩ = W.cell? ⟨g, j, none⟩) (hb : Below w.heap.size w W') : Sx w g m P0 P1 C0 C1 W' := by
  obtain ⟨h0, h1, h2, h3, h4⟩ := h
  exact ⟨hb, (hk _ (by omega)).trans h1, (hk _ (by omega)).trans h2, (hk _ (by omega)).trans h3, (hk _ (by omega)).trans h4⟩
theorem in16_any (n : Int) (w : World) : Calls Try.prog 24 #[.int .i64 n, .int .i64 1, .int .i64 16] w fun e w' => e = .returned (.bool (inO n)) ∧ w = w' := by
  by_cases h1 : 1 ≤ n
  · by_cases h2 : n ≤ 16
    · rw [show inO n = true from inO_iff.2 ⟨h1, h2⟩]
      go_enter Try.func24, Try.ntmps24
      go_wp2
      go_ret
      exact ⟨by simp [h2], rfl⟩
    · rw [show inO n = false from decide_eq_false (by omega)]
      go_enter Try.func24, Try.ntmps24
      go_wp2
      go_ret
      exact ⟨by simp [h2], rfl⟩
  · have hd : decide (1 ≤ n) = false := by simpa using h1
    rw [show inO n = false from decide_eq_false (by omega)]
    go_enter Try.func24, Try.ntmps24
    go_wp2
    go_ret
    exact ⟨by simp [h1], rfl⟩
set_option maxHeartbeats 6400000 in
theorem spec_FareyList_any (o : Int) (w : World) :
    Calls Try.prog 12 #[.int .i64 o] w fun e w' => ∃ v, e = .returned (.tuple #[v, .int .i64 (flC o)]) ∧ OwnF w.heap.size w' v (flL o).length (flat (flL o)) ∧ Below w.heap.size w w' := by
  have HIN := Lib.hid (fun w => in16_any o w)
  cases hin : inO o
  · rw [show flC o = 2 by unfold flC; rw [hin]; rfl, show flL o = [] by unfold flL; rw [hin]; rfl]
    rw [hin] at HIN
    clear hin
    go_enter Try.func12, Try.ntmps12
    go_wp2_with (go_at_call 24; refine (HIN.out _).mono ?_; rintro e wn ⟨rfl, rfl⟩)
    go_ret2
    exact ⟨_, rfl, World.ownsRow_nil _ _ _ _, Below.refl _ _⟩
  · rw [show flC o = 0 by unfold flC; rw [hin]; rfl, show flL o = [(0, 1)] ++ flT 16 o 1 2 0 1 1 1 ++ [(1, 1)] by unfold flL; rw [hin]; rfl]
    rw [hin] at HIN
    have hr := inO_iff.1 hin
    have hok := okO_all o hr
    obtain ⟨L, hL⟩ : ∃ L, [(0, 1)] ++ flT 16 o 1 2 0 1 1 1 ++ [(1, 1)] = L := ⟨_, rfl⟩
    rw [hL] at hok ⊢
    have HL : Hid (okO o L = true ∧ 1 ≤ o ∧ o ≤ 16) := ⟨hok, hr⟩
    have hlen : 2 ≤ L.length ∧ L.length ≤ 200 ∧ L.take 2 = [(0, 1), (1, o)] := by
      unfold okO at hok
      simp only [Bool.and_eq_true, decide_eq_true_eq] at hok
      exact ⟨hok.1.1.1, hok.1.1.2, hok.1.2⟩
    obtain ⟨ln2, ln200, lnT⟩ := hlen
    have HT := Lib.hid lnT
    clear hin hok hL hr lnT
    go_enter Try.func12, Try.ntmps12
    go_wp2_with (go_at_call 24; refine (HIN.out _).mono ?_; rintro e wn ⟨rfl, rfl⟩)
    have HO0 : Hid (OwnF w.heap.size (w.alloc (.cells #[.int .i64 0, .int .i64 1, .int .i64 1, .int .i64 o] 24)) (.slice (some ⟨w.heap.size, 0, none⟩) 2 2) 2 (flat (L.take 2))) := by
      show OwnF _ _ _ _ _
      rw [HT.out]
      exact World.ownsRow_lit w #[.int .i64 0, .int .i64 1, .int .i64 1, .int .i64 o] 2 (Nat.le_refl _) (by decide) rfl
    go_loopw [4, 5] (fun s x wr => ∃ (m : Nat) (a : Option Addr) (c : Nat), s = .slice a (m + 2) c ∧ x = .int .i64 ((m : Int) + 1) ∧ m + 1 < L.length ∧ OwnF w.heap.size wr (.slice a (m + 2) c) (m + 2) (flat (L.take (m + 2))) ∧ Below w.heap.size w wr) (fun _ x _ => 300 - (intOf x).toNat)
    case atStart => exact ⟨0, _, _, rfl, rfl, by omega, HO0.out, (Below.refl _ _).alloc (Nat.le_refl _) _⟩
    case round =>
      obtain ⟨m, a, c, rfl, rfl, hm, hown, hbel⟩ := hrel
      obtain ⟨_, _, he, hc⟩ := own_viewF hown
      obtain ⟨g, ha, hg1, hg2, hcells, _⟩ := hc (by omega)
      simp only [Value.slice.injEq, true_and] at he
      obtain ⟨he1, he2⟩ := he
      rw [← he1] at ha
      subst ha
      clear he1 he2
      have hst := okO_at HL.out.1 (k := m + 1) (by omega) hm
      have hbd := stO_bd hst
      have hf := flat_at (L.take (m + 2))
      obtain ⟨⟨P0, P1⟩, hP⟩ : ∃ p, at2 L m = p := ⟨_, rfl⟩
      obtain ⟨⟨C0, C1⟩, hC⟩ : ∃ p, at2 L (m + 1) = p := ⟨_, rfl⟩
      have e0 := hf m
      have e1 := hf (m + 1)
      rw [at2_take (by omega), hP] at e0
      rw [at2_take (by omega), hC] at e1
      rw [Nat.add_sub_cancel, hP, hC] at hbd
      simp only at hbd e0 e1
      have HSX : Hid (Sx w g m P0 P1 C0 C1 wr) := ⟨hbel, by rw [hcells _ (by omega), e0.1], by rw [hcells _ (by omega), e0.2], by rw [hcells _ (by omega), e1.1], by rw [hcells _ (by omega), e1.2]⟩
      have HO := Lib.hid hown
      have HST : Hid (m + 1 + 1 < L.length → ¬ C0 = C1 ∧ at2 L (m + 1 + 1) = (-P0 + (o + P1) / C1 * C0, -P1 + (o + P1) / C1 * C1)) := fun h => by
        have := stO_go hst h
        rw [Nat.add_sub_cancel, hP, hC] at this
        exact this
      have HEN : Hid (¬ m + 1 + 1 < L.length → C0 = C1) := fun h => by
        have := stO_end hst h
        rw [hC] at this
        exact this
      obtain ⟨b1, b2, b3, b4, b5, b6, b7, b8⟩ := hbd
      have p1 : (0 : Int) ≤ (m : Int) + 1 := by omega
      have p2 : (0 : Int) ≤ (m : Int) := by omega
      have p4 : (m : Int) < (m : Int) + 2 := by omega
      have p3 : IntKind.i64.wrap (m : Int) = (m : Int) := by rw [IntKind.wrap_i64]; omega
      clear hst hf e0 e1 hP hC hcells hg1 hg2 hown hbel
      by_cases hgo : m + 1 + 1 < L.length
      · have hne := (HST.out hgo).1
        have hneb : (C0 == C1) = false := by simpa using hne
        obtain ⟨⟨N0, N1⟩, hN⟩ : ∃ p, at2 L (m + 1 + 1) = p := ⟨_, rfl⟩
        obtain ⟨Qv, hQv⟩ : ∃ q, (o + P1) / C1 = q := ⟨_, rfl⟩
        have hnx := (HST.out hgo).2
        rw [hN, hQv] at hnx
        simp only [Prod.mk.injEq] at hnx
        have ho := HL.out.2
        have hq0 : 0 ≤ Qv := by rw [← hQv]; exact Int.ediv_nonneg (by omega) (by omega)
        have hq1 : Qv ≤ 116 := by
          have := Int.ediv_le_self C1 (show 0 ≤ o + P1 by omega)
          omega
        have htd : (o + P1).tdiv C1 = Qv := by rw [Int.tdiv_eq_ediv_of_nonneg (by omega), hQv]
        have hc0 : ¬ C1 = 0 := by omega
        have hc0b : (C1 == 0) = false := by simpa using hc0
        have w1 : IntKind.i64.wrap (o + P1) = o + P1 := by rw [IntKind.wrap_i64]; omega
        have w2 : IntKind.i64.wrap Qv = Qv := by rw [IntKind.wrap_i64]; omega
        have w3 : IntKind.i64.wrap (-P0) = -P0 := by rw [IntKind.wrap_i64]; omega
        have w4 : IntKind.i64.wrap (-P1) = -P1 := by rw [IntKind.wrap_i64]; omega
        have HPL : Hid (∀ w, Calls Try.prog 25 #[.agg #[.int .i64 (-P0), .int .i64 (-P1)], .agg #[.int .i64 C0, .int .i64 C1], .int .i64 Qv] w fun e w' => e = .returned (.agg #[.int .i64 N0, .int .i64 N1]) ∧ Below w.heap.size w w') := fun w => by
          have := l01Plus_any (-P0) (-P1) C0 C1 Qv w ⟨by omega, by omega⟩ ⟨by omega, by omega⟩ ⟨by omega, by omega⟩ ⟨by omega, by omega⟩ ⟨by omega, by omega⟩
          rw [← hnx.1, ← hnx.2] at this
          exact this
        have HTK : Hid (flat (L.take (m + 1 + 2)) = flat (L.take (m + 2)) ++ [N0, N1]) := by
          show flat (L.take (m + 2 + 1)) = _
          rw [take_snoc (m := m + 2) (by omega), flat_append]
          have : at2 L (m + 2) = (N0, N1) := hN
          rw [this]; rfl
        clear hnx hQv hN ho hne
        go_upto_region 5 with fail
        refine wp_region_held_drew (S := Sx w g m P0 P1 C0 C1) (by kernel_rfl) ?_ (fun hHeld => ?_); focus ((try dsimp only); exact HSX.out.below ((Below.refl _ _).drew))
        have hHeld : Sx w g m P0 P1 C0 C1 _ := hHeld
        obtain ⟨wA, hwA⟩ : ∃ wD, wr.drew = wD := ⟨_, rfl⟩
        have HOA := Lib.hid (HO.out.below (show Below wr.heap.size wr wA by rw [← hwA]; exact (Below.refl _ _).drew))
        rw [hwA] at hHeld ⊢
        clear hwA
        (refine wpAnyH_take (i := 0) (v := ?_) rfl (by kernel_rfl) (by kernel_rfl) (by kernel_rfl) (fun _ _ _ h => h) (Or.inl ⟨rfl, ?_⟩) (by assumption) ?_; rotate_left; focus (intro W hSw; (try dsimp only at hSw); obtain ⟨ibw, i0, i1, i2, i3⟩ := hSw; clear ibw; go_simp; try (with_reducible rfl))); (try simp only [Act.put, List.getElem_toArray, List.getElem_cons_succ, List.getElem_cons_zero, List.setIfInBounds_toArray, List.set_cons_zero, List.set_cons_succ])
        (refine wpAnyH_take (i := 1) (v := ?_) rfl (by kernel_rfl) (by kernel_rfl) (by kernel_rfl) (fun _ _ _ h => h) (Or.inl ⟨rfl, ?_⟩) (by assumption) ?_; rotate_left; focus (intro W hSw; (try dsimp only at hSw); obtain ⟨ibw, i0, i1, i2, i3⟩ := hSw; clear ibw; go_simp; try (with_reducible rfl))); (try simp only [Act.put, List.getElem_toArray, List.getElem_cons_succ, List.getElem_cons_zero, List.setIfInBounds_toArray, List.set_cons_zero, List.set_cons_succ])
        (refine wpAnyH_take (i := 2) (v := ?_) rfl (by kernel_rfl) (by kernel_rfl) (by kernel_rfl) (fun _ _ _ h => h) (Or.inl ⟨rfl, ?_⟩) (by assumption) ?_; rotate_left; focus (intro W hSw; (try dsimp only at hSw); obtain ⟨ibw, i0, i1, i2, i3⟩ := hSw; clear ibw; go_simp; try (with_reducible rfl))); (try simp only [Act.put, List.getElem_toArray, List.getElem_cons_succ, List.getElem_cons_zero, List.setIfInBounds_toArray, List.set_cons_zero, List.set_cons_succ])
        (refine wpAnyH_take (i := 3) (v := ?_) rfl (by kernel_rfl) (by kernel_rfl) (by kernel_rfl) (fun _ _ _ h => h) (Or.inl ⟨rfl, ?_⟩) (by assumption) ?_; rotate_left; focus (intro W hSw; (try dsimp only at hSw); obtain ⟨ibw, i0, i1, i2, i3⟩ := hSw; clear ibw; go_simp; try (with_reducible rfl))); (try simp only [Act.put, List.getElem_toArray, List.getElem_cons_succ, List.getElem_cons_zero, List.setIfInBounds_toArray, List.set_cons_zero, List.set_cons_succ])
        (refine wpAnyH_take (i := 4) (v := ?_) rfl (by kernel_rfl) (by kernel_rfl) (by kernel_rfl) (fun _ _ _ h => h) (Or.inl ⟨rfl, ?_⟩) (by assumption) ?_; rotate_left; focus (intro W hSw; (try dsimp only at hSw); obtain ⟨ibw, i0, i1, i2, i3⟩ := hSw; clear ibw; go_simp; try (with_reducible rfl))); (try simp only [Act.put, List.getElem_toArray, List.getElem_cons_succ, List.getElem_cons_zero, List.setIfInBounds_toArray, List.set_cons_zero, List.set_cons_succ])
        (refine wpAnyH_take (i := 5) (v := ?_) rfl (by kernel_rfl) (by kernel_rfl) (by kernel_rfl) (fun _ _ _ h => h) (Or.inl ⟨rfl, ?_⟩) (by assumption) ?_; rotate_left; focus (intro W hSw; (try dsimp only at hSw); obtain ⟨ibw, i0, i1, i2, i3⟩ := hSw; clear ibw; go_simp; try (with_reducible rfl))); (try simp only [Act.put, List.getElem_toArray, List.getElem_cons_succ, List.getElem_cons_zero, List.setIfInBounds_toArray, List.set_cons_zero, List.set_cons_succ])
        (refine wpAnyH_take (i := 6) (v := ?_) rfl (by kernel_rfl) (by kernel_rfl) (by kernel_rfl) (fun _ _ _ h => h) (Or.inl ⟨rfl, ?_⟩) (by assumption) ?_; rotate_left; focus (intro W hSw; (try dsimp only at hSw); obtain ⟨ibw, i0, i1, i2, i3⟩ := hSw; clear ibw; go_simp; try (with_reducible rfl))); (try simp only [Act.put, List.getElem_toArray, List.getElem_cons_succ, List.getElem_cons_zero, List.setIfInBounds_toArray, List.set_cons_zero, List.set_cons_succ])
        (refine wpAnyH_take (i := 7) (v := ?_) rfl (by kernel_rfl) (by kernel_rfl) (by kernel_rfl) (fun _ _ _ h => h) (Or.inl ⟨rfl, ?_⟩) (by assumption) ?_; rotate_left; focus (intro W hSw; (try dsimp only at hSw); obtain ⟨ibw, i0, i1, i2, i3⟩ := hSw; clear ibw; go_simp; try (with_reducible rfl))); (try simp only [Act.put, List.getElem_toArray, List.getElem_cons_succ, List.getElem_cons_zero, List.setIfInBounds_toArray, List.set_cons_zero, List.set_cons_succ])
        (refine wpAnyH_take (i := 8) (v := ?_) rfl (by kernel_rfl) (by kernel_rfl) (by kernel_rfl) (fun _ _ _ h => h) (Or.inl ⟨rfl, ?_⟩) (by assumption) ?_; rotate_left; focus (intro W hSw; (try dsimp only at hSw); obtain ⟨ibw, i0, i1, i2, i3⟩ := hSw; clear ibw; go_simp; try (with_reducible rfl))); (try simp only [Act.put, List.getElem_toArray, List.getElem_cons_succ, List.getElem_cons_zero, List.setIfInBounds_toArray, List.set_cons_zero, List.set_cons_succ])
        (refine wpAnyH_take (i := 9) (v := ?_) rfl (by kernel_rfl) (by kernel_rfl) (by kernel_rfl) (fun _ _ _ h => h) (Or.inl ⟨rfl, ?_⟩) (by assumption) ?_; rotate_left; focus (intro W hSw; (try dsimp only at hSw); obtain ⟨ibw, i0, i1, i2, i3⟩ := hSw; clear ibw; go_simp; try (with_reducible rfl))); (try simp only [Act.put, List.getElem_toArray, List.getElem_cons_succ, List.getElem_cons_zero, List.setIfInBounds_toArray, List.set_cons_zero, List.set_cons_succ])
        (refine wpAnyH_take (i := 10) (v := ?_) rfl (by kernel_rfl) (by kernel_rfl) (by kernel_rfl) (fun _ _ _ h => h) (Or.inl ⟨rfl, ?_⟩) (by assumption) ?_; rotate_left; focus (intro W hSw; (try dsimp only at hSw); obtain ⟨ibw, i0, i1, i2, i3⟩ := hSw; clear ibw; go_simp; try (with_reducible rfl))); (try simp only [Act.put, List.getElem_toArray, List.getElem_cons_succ, List.getElem_cons_zero, List.setIfInBounds_toArray, List.set_cons_zero, List.set_cons_succ])
        refine wpAnyH_done (by kernel_rfl) ?_ _
        go_upto_region 7 with fail
        have HSX := Lib.hid hHeld
        clear hHeld
        refine wp_region_held_drew (S := Sx w g m P0 P1 C0 C1) (by kernel_rfl) ?_ (fun hHeld => ?_); focus ((try dsimp only); exact HSX.out.below ((Below.refl _ _).drew))
        have hHeld : Sx w g m P0 P1 C0 C1 _ := hHeld
        obtain ⟨wC, hwC⟩ : ∃ wD, wA.drew = wD := ⟨_, rfl⟩
        have HOC := Lib.hid (HOA.out.below (show Below wA.heap.size wA wC by rw [← hwC]; exact (Below.refl _ _).drew))
        rw [hwC] at hHeld ⊢
        clear hwC
        (refine wpAnyH_take (i := 0) (v := ?_) rfl (by kernel_rfl) (by kernel_rfl) (by kernel_rfl) (fun _ _ _ h => h) (Or.inl ⟨rfl, ?_⟩) (by assumption) ?_; rotate_left; focus (intro W hSw; (try dsimp only at hSw); obtain ⟨ibw, i0, i1, i2, i3⟩ := hSw; clear ibw; go_simp; try (with_reducible rfl))); (try simp only [Act.put, List.getElem_toArray, List.getElem_cons_succ, List.getElem_cons_zero, List.setIfInBounds_toArray, List.set_cons_zero, List.set_cons_succ])
        (refine wpAnyH_take (i := 1) (v := ?_) rfl (by kernel_rfl) (by kernel_rfl) (by kernel_rfl) (fun _ _ _ h => h) (Or.inl ⟨rfl, ?_⟩) (by assumption) ?_; rotate_left; focus (intro W hSw; (try dsimp only at hSw); obtain ⟨ibw, i0, i1, i2, i3⟩ := hSw; clear ibw; go_simp; try (with_reducible rfl))); (try simp only [Act.put, List.getElem_toArray, List.getElem_cons_succ, List.getElem_cons_zero, List.setIfInBounds_toArray, List.set_cons_zero, List.set_cons_succ])
        (refine wpAnyH_take (i := 2) (v := ?_) rfl (by kernel_rfl) (by kernel_rfl) (by kernel_rfl) (fun _ _ _ h => h) (Or.inl ⟨rfl, ?_⟩) (by assumption) ?_; rotate_left; focus (intro W hSw; (try dsimp only at hSw); obtain ⟨ibw, i0, i1, i2, i3⟩ := hSw; clear ibw; go_simp; try (with_reducible rfl))); (try simp only [Act.put, List.getElem_toArray, List.getElem_cons_succ, List.getElem_cons_zero, List.setIfInBounds_toArray, List.set_cons_zero, List.set_cons_succ])
        (refine wpAnyH_take (i := 3) (v := ?_) rfl (by kernel_rfl) (by kernel_rfl) (by kernel_rfl) (fun _ _ _ h => h) (Or.inl ⟨rfl, ?_⟩) (by assumption) ?_; rotate_left; focus (intro W hSw; (try dsimp only at hSw); obtain ⟨ibw, i0, i1, i2, i3⟩ := hSw; clear ibw; go_simp; try (with_reducible rfl))); (try simp only [Act.put, List.getElem_toArray, List.getElem_cons_succ, List.getElem_cons_zero, List.setIfInBounds_toArray, List.set_cons_zero, List.set_cons_succ])
        (refine wpAnyH_take (i := 4) (v := ?_) rfl (by kernel_rfl) (by kernel_rfl) (by kernel_rfl) (fun _ _ _ h => h) (Or.inl ⟨rfl, ?_⟩) (by assumption) ?_; rotate_left; focus (intro W hSw; (try dsimp only at hSw); obtain ⟨ibw, i0, i1, i2, i3⟩ := hSw; clear ibw; go_simp; try (with_reducible rfl))); (try simp only [Act.put, List.getElem_toArray, List.getElem_cons_succ, List.getElem_cons_zero, List.setIfInBounds_toArray, List.set_cons_zero, List.set_cons_succ])
        (refine wpAnyH_take (i := 5) (v := ?_) rfl (by kernel_rfl) (by kernel_rfl) (by kernel_rfl) (fun _ _ _ h => h) (Or.inl ⟨rfl, ?_⟩) (by assumption) ?_; rotate_left; focus (intro W hSw; (try dsimp only at hSw); obtain ⟨ibw, i0, i1, i2, i3⟩ := hSw; clear ibw; go_simp; try (with_reducible rfl))); (try simp only [Act.put, List.getElem_toArray, List.getElem_cons_succ, List.getElem_cons_zero, List.setIfInBounds_toArray, List.set_cons_zero, List.set_cons_succ])
        (refine wpAnyH_take (i := 6) (v := ?_) rfl (by kernel_rfl) (by kernel_rfl) (by kernel_rfl) (fun _ _ _ h => h) (Or.inl ⟨rfl, ?_⟩) (by assumption) ?_; rotate_left; focus (intro W hSw; (try dsimp only at hSw); obtain ⟨ibw, i0, i1, i2, i3⟩ := hSw; clear ibw; go_simp; try (with_reducible rfl))); (try simp only [Act.put, List.getElem_toArray, List.getElem_cons_succ, List.getElem_cons_zero, List.setIfInBounds_toArray, List.set_cons_zero, List.set_cons_succ])
        (refine wpAnyH_take (i := 7) (v := ?_) rfl (by kernel_rfl) (by kernel_rfl) (by kernel_rfl) (fun _ _ _ h => h) (Or.inl ⟨rfl, ?_⟩) (by assumption) ?_; rotate_left; focus (intro W hSw; (try dsimp only at hSw); obtain ⟨ibw, i0, i1, i2, i3⟩ := hSw; clear ibw; go_simp; try (with_reducible rfl))); (try simp only [Act.put, List.getElem_toArray, List.getElem_cons_succ, List.getElem_cons_zero, List.setIfInBounds_toArray, List.set_cons_zero, List.set_cons_succ])
        (refine wpAnyH_take (i := 8) (v := ?_) rfl (by kernel_rfl) (by kernel_rfl) (by kernel_rfl) (fun _ _ _ h => h) (Or.inl ⟨rfl, ?_⟩) (by assumption) ?_; rotate_left; focus (intro W hSw; (try dsimp only at hSw); obtain ⟨ibw, i0, i1, i2, i3⟩ := hSw; clear ibw; go_simp; try (with_reducible rfl))); (try simp only [Act.put, List.getElem_toArray, List.getElem_cons_succ, List.getElem_cons_zero, List.setIfInBounds_toArray, List.set_cons_zero, List.set_cons_succ])
        (refine wpAnyH_take (i := 9) (v := ?_) rfl (by kernel_rfl) (by kernel_rfl) (by kernel_rfl) (fun _ _ _ h => h) (Or.inl ⟨rfl, ?_⟩) (by assumption) ?_; rotate_left; focus (intro W hSw; (try dsimp only at hSw); obtain ⟨ibw, i0, i1, i2, i3⟩ := hSw; clear ibw; go_simp; try (with_reducible rfl))); (try simp only [Act.put, List.getElem_toArray, List.getElem_cons_succ, List.getElem_cons_zero, List.setIfInBounds_toArray, List.set_cons_zero, List.set_cons_succ])
        (refine wpAnyH_take (i := 10) (v := ?_) rfl (by kernel_rfl) (by kernel_rfl) (by kernel_rfl) (fun _ _ _ h => h) (Or.inl ⟨rfl, ?_⟩) (by assumption) ?_; rotate_left; focus (intro W hSw; (try dsimp only at hSw); obtain ⟨ibw, i0, i1, i2, i3⟩ := hSw; clear ibw; go_simp; try (with_reducible rfl))); (try simp only [Act.put, List.getElem_toArray, List.getElem_cons_succ, List.getElem_cons_zero, List.setIfInBounds_toArray, List.set_cons_zero, List.set_cons_succ])
        (refine wpAnyH_take (i := 11) (v := ?_) rfl (by kernel_rfl) (by kernel_rfl) (by kernel_rfl) (fun _ _ _ h => h) (Or.inl ⟨rfl, ?_⟩) (by assumption) ?_; rotate_left; focus (intro W hSw; (try dsimp only at hSw); obtain ⟨ibw, i0, i1, i2, i3⟩ := hSw; clear ibw; go_simp; try (with_reducible rfl))); (try simp only [Act.put, List.getElem_toArray, List.getElem_cons_succ, List.getElem_cons_zero, List.setIfInBounds_toArray, List.set_cons_zero, List.set_cons_succ])
        (refine wpAnyH_take (i := 12) (v := ?_) rfl (by kernel_rfl) (by kernel_rfl) (by kernel_rfl) (fun _ _ _ h => h) (Or.inl ⟨rfl, ?_⟩) (by assumption) ?_; rotate_left; focus (intro W hSw; (try dsimp only at hSw); obtain ⟨ibw, i0, i1, i2, i3⟩ := hSw; clear ibw; go_simp; try (with_reducible rfl))); (try simp only [Act.put, List.getElem_toArray, List.getElem_cons_succ, List.getElem_cons_zero, List.setIfInBounds_toArray, List.set_cons_zero, List.set_cons_succ])
        (refine wpAnyH_take (i := 13) (v := ?_) rfl (by kernel_rfl) (by kernel_rfl) (by kernel_rfl) (fun _ _ _ h => h) (Or.inl ⟨rfl, ?_⟩) (by assumption) ?_; rotate_left; focus (intro W hSw; (try dsimp only at hSw); obtain ⟨ibw, i0, i1, i2, i3⟩ := hSw; clear ibw; go_simp; try (with_reducible rfl))); (try simp only [Act.put, List.getElem_toArray, List.getElem_cons_succ, List.getElem_cons_zero, List.setIfInBounds_toArray, List.set_cons_zero, List.set_cons_succ])
        (refine wpAnyH_take (i := 14) (v := ?_) rfl (by kernel_rfl) (by kernel_rfl) (by kernel_rfl) (fun _ _ _ h => h) (Or.inl ⟨rfl, ?_⟩) (by assumption) ?_; rotate_left; focus (intro W hSw; (try dsimp only at hSw); obtain ⟨ibw, i0, i1, i2, i3⟩ := hSw; clear ibw; go_simp; try (with_reducible rfl))); (try simp only [Act.put, List.getElem_toArray, List.getElem_cons_succ, List.getElem_cons_zero, List.setIfInBounds_toArray, List.set_cons_zero, List.set_cons_succ])
        refine wpAnyH_done (by kernel_rfl) ?_ _
        go_upto_region 8 with fail
        have HSX := Lib.hid hHeld
        clear hHeld
        refine wp_region_held_drew (S := Sx w g m P0 P1 C0 C1) (by kernel_rfl) ?_ (fun hHeld => ?_); focus ((try dsimp only); exact HSX.out.below ((Below.refl _ _).drew))
        have hHeld : Sx w g m P0 P1 C0 C1 _ := hHeld
        obtain ⟨wE, hwE⟩ : ∃ wD, wC.drew = wD := ⟨_, rfl⟩
        have HOE := Lib.hid (HOC.out.below (show Below wC.heap.size wC wE by rw [← hwE]; exact (Below.refl _ _).drew))
        rw [hwE] at hHeld ⊢
        clear hwE
        (refine wpAnyH_take (i := 0) (v := ?_) rfl (by kernel_rfl) (by kernel_rfl) (by kernel_rfl) (fun _ _ _ h => h) (Or.inl ⟨rfl, ?_⟩) (by assumption) ?_; rotate_left; focus (intro W hSw; (try dsimp only at hSw); obtain ⟨ibw, i0, i1, i2, i3⟩ := hSw; clear ibw; go_simp; try (with_reducible rfl))); (try simp only [Act.put, List.getElem_toArray, List.getElem_cons_succ, List.getElem_cons_zero, List.setIfInBounds_toArray, List.set_cons_zero, List.set_cons_succ])
        (refine wpAnyH_take (i := 1) (v := ?_) rfl (by kernel_rfl) (by kernel_rfl) (by kernel_rfl) (fun _ _ _ h => h) (Or.inl ⟨rfl, ?_⟩) (by assumption) ?_; rotate_left; focus (intro W hSw; (try dsimp only at hSw); obtain ⟨ibw, i0, i1, i2, i3⟩ := hSw; clear ibw; go_simp; try (with_reducible rfl))); (try simp only [Act.put, List.getElem_toArray, List.getElem_cons_succ, List.getElem_cons_zero, List.setIfInBounds_toArray, List.set_cons_zero, List.set_cons_succ])
        (refine wpAnyH_take (i := 2) (v := ?_) rfl (by kernel_rfl) (by kernel_rfl) (by kernel_rfl) (fun _ _ _ h => h) (Or.inl ⟨rfl, ?_⟩) (by assumption) ?_; rotate_left; focus (intro W hSw; (try dsimp only at hSw); obtain ⟨ibw, i0, i1, i2, i3⟩ := hSw; clear ibw; go_simp; try (with_reducible rfl))); (try simp only [Act.put, List.getElem_toArray, List.getElem_cons_succ, List.getElem_cons_zero, List.setIfInBounds_toArray, List.set_cons_zero, List.set_cons_succ])
        (refine wpAnyH_take (i := 3) (v := ?_) rfl (by kernel_rfl) (by kernel_rfl) (by kernel_rfl) (fun _ _ _ h => h) (Or.inl ⟨rfl, ?_⟩) (by assumption) ?_; rotate_left; focus (intro W hSw; (try dsimp only at hSw); obtain ⟨ibw, i0, i1, i2, i3⟩ := hSw; clear ibw; go_simp; try (with_reducible rfl))); (try simp only [Act.put, List.getElem_toArray, List.getElem_cons_succ, List.getElem_cons_zero, List.setIfInBounds_toArray, List.set_cons_zero, List.set_cons_succ])
        (refine wpAnyH_take (i := 4) (v := ?_) rfl (by kernel_rfl) (by kernel_rfl) (by kernel_rfl) (fun _ _ _ h => h) (Or.inl ⟨rfl, ?_⟩) (by assumption) ?_; rotate_left; focus (intro W hSw; (try dsimp only at hSw); obtain ⟨ibw, i0, i1, i2, i3⟩ := hSw; clear ibw; go_simp; try (with_reducible rfl))); (try simp only [Act.put, List.getElem_toArray, List.getElem_cons_succ, List.getElem_cons_zero, List.setIfInBounds_toArray, List.set_cons_zero, List.set_cons_succ])
        (refine wpAnyH_take (i := 5) (v := ?_) rfl (by kernel_rfl) (by kernel_rfl) (by kernel_rfl) (fun _ _ _ h => h) (Or.inl ⟨rfl, ?_⟩) (by assumption) ?_; rotate_left; focus (intro W hSw; (try dsimp only at hSw); obtain ⟨ibw, i0, i1, i2, i3⟩ := hSw; clear ibw; go_simp; try (with_reducible rfl))); (try simp only [Act.put, List.getElem_toArray, List.getElem_cons_succ, List.getElem_cons_zero, List.setIfInBounds_toArray, List.set_cons_zero, List.set_cons_succ])
        (refine wpAnyH_take (i := 6) (v := ?_) rfl (by kernel_rfl) (by kernel_rfl) (by kernel_rfl) (fun _ _ _ h => h) (Or.inl ⟨rfl, ?_⟩) (by assumption) ?_; rotate_left; focus (intro W hSw; (try dsimp only at hSw); obtain ⟨ibw, i0, i1, i2, i3⟩ := hSw; clear ibw; go_simp; try (with_reducible rfl))); (try simp only [Act.put, List.getElem_toArray, List.getElem_cons_succ, List.getElem_cons_zero, List.setIfInBounds_toArray, List.set_cons_zero, List.set_cons_succ])
        (refine wpAnyH_take (i := 7) (v := ?_) rfl (by kernel_rfl) (by kernel_rfl) (by kernel_rfl) (fun _ _ _ h => h) (Or.inl ⟨rfl, ?_⟩) (by assumption) ?_; rotate_left; focus (intro W hSw; (try dsimp only at hSw); obtain ⟨ibw, i0, i1, i2, i3⟩ := hSw; clear ibw; go_simp; try (with_reducible rfl))); (try simp only [Act.put, List.getElem_toArray, List.getElem_cons_succ, List.getElem_cons_zero, List.setIfInBounds_toArray, List.set_cons_zero, List.set_cons_succ])
        (refine wpAnyH_take (i := 8) (v := ?_) rfl (by kernel_rfl) (by kernel_rfl) (by kernel_rfl) (fun _ _ _ h => h) (Or.inl ⟨rfl, ?_⟩) (by assumption) ?_; rotate_left; focus (intro W hSw; (try dsimp only at hSw); obtain ⟨ibw, i0, i1, i2, i3⟩ := hSw; clear ibw; go_simp; try (with_reducible rfl))); (try simp only [Act.put, List.getElem_toArray, List.getElem_cons_succ, List.getElem_cons_zero, List.setIfInBounds_toArray, List.set_cons_zero, List.set_cons_succ])
        (refine wpAnyH_take (i := 9) (v := ?_) rfl (by kernel_rfl) (by kernel_rfl) (by kernel_rfl) (fun _ _ _ h => h) (Or.inl ⟨rfl, ?_⟩) (by assumption) ?_; rotate_left; focus (intro W hSw; (try dsimp only at hSw); obtain ⟨ibw, i0, i1, i2, i3⟩ := hSw; clear ibw; go_simp; try (with_reducible rfl))); (try simp only [Act.put, List.getElem_toArray, List.getElem_cons_succ, List.getElem_cons_zero, List.setIfInBounds_toArray, List.set_cons_zero, List.set_cons_succ])
        (refine wpAnyH_take (i := 10) (v := ?_) rfl (by kernel_rfl) (by kernel_rfl) (by kernel_rfl) (fun _ _ _ h => h) (Or.inl ⟨rfl, ?_⟩) (by assumption) ?_; rotate_left; focus (intro W hSw; (try dsimp only at hSw); obtain ⟨ibw, i0, i1, i2, i3⟩ := hSw; clear ibw; go_simp; try (with_reducible rfl))); (try simp only [Act.put, List.getElem_toArray, List.getElem_cons_succ, List.getElem_cons_zero, List.setIfInBounds_toArray, List.set_cons_zero, List.set_cons_succ])
        (refine wpAnyH_take (i := 11) (v := ?_) rfl (by kernel_rfl) (by kernel_rfl) (by kernel_rfl) (fun _ _ _ h => h) (Or.inl ⟨rfl, ?_⟩) (by assumption) ?_; rotate_left; focus (intro W hSw; (try dsimp only at hSw); obtain ⟨ibw, i0, i1, i2, i3⟩ := hSw; clear ibw; go_simp; try (with_reducible rfl))); (try simp only [Act.put, List.getElem_toArray, List.getElem_cons_succ, List.getElem_cons_zero, List.setIfInBounds_toArray, List.set_cons_zero, List.set_cons_succ])
        (refine wpAnyH_take (i := 12) (v := ?_) rfl (by kernel_rfl) (by kernel_rfl) (by kernel_rfl) (fun _ _ _ h => h) (Or.inl ⟨rfl, ?_⟩) (by assumption) ?_; rotate_left; focus (intro W hSw; (try dsimp only at hSw); obtain ⟨ibw, i0, i1, i2, i3⟩ := hSw; clear ibw; go_simp; try (with_reducible rfl))); (try simp only [Act.put, List.getElem_toArray, List.getElem_cons_succ, List.getElem_cons_zero, List.setIfInBounds_toArray, List.set_cons_zero, List.set_cons_succ])
        (refine wpAnyH_take (i := 13) (v := ?_) rfl (by kernel_rfl) (by kernel_rfl) (by kernel_rfl) (fun _ _ _ h => h) (Or.inl ⟨rfl, ?_⟩) (by assumption) ?_; rotate_left; focus (intro W hSw; (try dsimp only at hSw); obtain ⟨ibw, i0, i1, i2, i3⟩ := hSw; clear ibw; go_simp; try (with_reducible rfl))); (try simp only [Act.put, List.getElem_toArray, List.getElem_cons_succ, List.getElem_cons_zero, List.setIfInBounds_toArray, List.set_cons_zero, List.set_cons_succ])
        (refine wpAnyH_take (i := 14) (v := ?_) rfl (by kernel_rfl) (by kernel_rfl) (by kernel_rfl) (fun _ _ _ h => h) (Or.inl ⟨rfl, ?_⟩) (by assumption) ?_; rotate_left; focus (intro W hSw; (try dsimp only at hSw); obtain ⟨ibw, i0, i1, i2, i3⟩ := hSw; clear ibw; go_simp; try (with_reducible rfl))); (try simp only [Act.put, List.getElem_toArray, List.getElem_cons_succ, List.getElem_cons_zero, List.setIfInBounds_toArray, List.set_cons_zero, List.set_cons_succ])
        (refine wpAnyH_take (i := 15) (v := ?_) rfl (by kernel_rfl) (by kernel_rfl) (by kernel_rfl) (fun _ _ _ h => h) (Or.inl ⟨rfl, ?_⟩) (by assumption) ?_; rotate_left; focus (intro W hSw; (try dsimp only at hSw); obtain ⟨ibw, i0, i1, i2, i3⟩ := hSw; clear ibw; go_simp; try (with_reducible rfl))); (try simp only [Act.put, List.getElem_toArray, List.getElem_cons_succ, List.getElem_cons_zero, List.setIfInBounds_toArray, List.set_cons_zero, List.set_cons_succ])
        (refine wpAnyH_take (i := 16) (v := ?_) rfl (by kernel_rfl) (by kernel_rfl) (by kernel_rfl) (fun _ _ _ h => h) (Or.inl ⟨rfl, ?_⟩) (by assumption) ?_; rotate_left; focus (intro W hSw; (try dsimp only at hSw); obtain ⟨ibw, i0, i1, i2, i3⟩ := hSw; clear ibw; go_simp; try (with_reducible rfl))); (try simp only [Act.put, List.getElem_toArray, List.getElem_cons_succ, List.getElem_cons_zero, List.setIfInBounds_toArray, List.set_cons_zero, List.set_cons_succ])
        (refine wpAnyH_take (i := 17) (v := ?_) rfl (by kernel_rfl) (by kernel_rfl) (by kernel_rfl) (fun _ _ _ h => h) (Or.inl ⟨rfl, ?_⟩) (by assumption) ?_; rotate_left; focus (intro W hSw; (try dsimp only at hSw); obtain ⟨ibw, i0, i1, i2, i3⟩ := hSw; clear ibw; go_simp; try (with_reducible rfl))); (try simp only [Act.put, List.getElem_toArray, List.getElem_cons_succ, List.getElem_cons_zero, List.setIfInBounds_toArray, List.set_cons_zero, List.set_cons_succ])
        (refine wpAnyH_take (i := 18) (v := ?_) rfl (by kernel_rfl) (by kernel_rfl) (by kernel_rfl) (fun _ _ _ h => h) (Or.inl ⟨rfl, ?_⟩) (by assumption) ?_; rotate_left; focus (intro W hSw; (try dsimp only at hSw); obtain ⟨ibw, i0, i1, i2, i3⟩ := hSw; clear ibw; go_simp; try (with_reducible rfl))); (try simp only [Act.put, List.getElem_toArray, List.getElem_cons_succ, List.getElem_cons_zero, List.setIfInBounds_toArray, List.set_cons_zero, List.set_cons_succ])
        (refine wpAnyH_take (i := 19) (v := ?_) rfl (by kernel_rfl) (by kernel_rfl) (by kernel_rfl) (fun _ _ _ h => h) (Or.inl ⟨rfl, ?_⟩) (by assumption) ?_; rotate_left; focus (intro W hSw; (try dsimp only at hSw); obtain ⟨ibw, i0, i1, i2, i3⟩ := hSw; clear ibw; go_simp; try (with_reducible rfl))); (try simp only [Act.put, List.getElem_toArray, List.getElem_cons_succ, List.getElem_cons_zero, List.setIfInBounds_toArray, List.set_cons_zero, List.set_cons_succ])
        (refine wpAnyH_take (i := 20) (v := ?_) rfl (by kernel_rfl) (by kernel_rfl) (by kernel_rfl) (fun _ _ _ h => h) (Or.inl ⟨rfl, ?_⟩) (by assumption) ?_; rotate_left; focus (intro W hSw; (try dsimp only at hSw); obtain ⟨ibw, i0, i1, i2, i3⟩ := hSw; clear ibw; go_simp; try (with_reducible rfl))); (try simp only [Act.put, List.getElem_toArray, List.getElem_cons_succ, List.getElem_cons_zero, List.setIfInBounds_toArray, List.set_cons_zero, List.set_cons_succ])
        refine wpAnyH_ready (rs := [21]) (by kernel_rfl) (by simp) ?_; refine AllReadyH.cons rfl (fun K hK => ?_) AllReadyH.nil
        go_simp; (go_at_call 25; refine (HPL.out _).mono ?_; rintro en w5 ⟨rfl, hb5⟩)
        have HO5 := Lib.hid (HOE.out.below hb5)
        refine hK.out _ _ (hHeld.below hb5) (fun hHeld2 => ?_); clear hb5; (clear hHeld; rename _ => hHeld; clear hK K; have hHeld : Sx w g m P0 P1 C0 C1 _ := hHeld); (try simp only [Act.put, List.getElem_toArray, List.getElem_cons_succ, List.getElem_cons_zero, List.setIfInBounds_toArray, List.set_cons_zero, List.set_cons_succ])
        refine wpAnyH_ready (rs := [22]) (by kernel_rfl) (by simp) ?_; refine AllReadyH.cons rfl (fun K hK => ?_) AllReadyH.nil
        go_simp
        have c6 : (w5.alloc (.cells #[.int .i64 N0, .int .i64 N1] 24)).cell? ⟨w5.heap.size, 0, none⟩ = some (.int .i64 N0) := by go_cell
        have c7 : (w5.alloc (.cells #[.int .i64 N0, .int .i64 N1] 24)).cell? ⟨w5.heap.size, 1, none⟩ = some (.int .i64 N1) := by go_cell
        have HO6 := Lib.hid (HO5.out.below ((Below.refl _ _).alloc (Nat.le_refl _) (.cells #[.int .i64 N0, .int .i64 N1] 24)))
        refine hK.out _ _ (hHeld.below ((Below.refl _ _).alloc (Nat.le_refl _) _)) (fun hHeld2 => ?_); (clear hHeld; rename _ => hHeld; clear hK K; have hHeld : Sx w g m P0 P1 C0 C1 _ := hHeld); (try simp only [Act.put, List.getElem_toArray, List.getElem_cons_succ, List.getElem_cons_zero, List.setIfInBounds_toArray, List.set_cons_zero, List.set_cons_succ])
        obtain ⟨w6, hw6⟩ : ∃ wx, w5.alloc (.cells #[.int .i64 N0, .int .i64 N1] 24) = wx := ⟨_, rfl⟩
        rw [hw6] at c6 c7 HO6 hHeld ⊢; clear hw6
        refine wpAnyH_ready (rs := [23]) (by kernel_rfl) (by simp) ?_; refine AllReadyH.cons rfl (fun K hK => ?_) AllReadyH.nil
        refine wp_append_kept w.heap.size _ _ rfl HO6.out c6 c7 hHeld.1.size rfl rfl (by omega) ?_
        intro v9 w9 ho9 hg9 hk9
        have hs9 : Sx w g m P0 P1 C0 C1 w9 := hHeld.kept (fun j hj => hk9 j (by omega)) (hHeld.1.grown hg9 hHeld.1.size (fun k hk => by cases hk; exact (World.ownsRow.lt HO6.out _ rfl).1))
        have HO9 := Lib.hid ho9
        clear ho9 hg9 hk9 c6 c7
        refine hK.out _ _ hs9 (fun hHeld2 => ?_); clear hs9; (clear hHeld; rename _ => hHeld; clear hK K; have hHeld : Sx w g m P0 P1 C0 C1 _ := hHeld); (try simp only [Act.put, List.getElem_toArray, List.getElem_cons_succ, List.getElem_cons_zero, List.setIfInBounds_toArray, List.set_cons_zero, List.set_cons_succ])
        obtain ⟨va9, vc9, rfl, _⟩ := own_viewF HO9.out
        (refine wpAnyH_take (i := 24) (v := ?_) rfl (by kernel_rfl) (by kernel_rfl) (by kernel_rfl) (fun _ _ _ h => h) (Or.inl ⟨rfl, ?_⟩) (by assumption) ?_; rotate_left; focus (intro W hSw; (try dsimp only at hSw); obtain ⟨ibw, i0, i1, i2, i3⟩ := hSw; clear ibw; go_simp; try (with_reducible rfl))); (try simp only [Act.put, List.getElem_toArray, List.getElem_cons_succ, List.getElem_cons_zero, List.setIfInBounds_toArray, List.set_cons_zero, List.set_cons_succ])
        refine wpAnyH_done (by kernel_rfl) ?_ _
        have hbF := hHeld.1
        clear hHeld
        go_wp2_with fail
        go_roundw
        case rel =>
          refine ⟨m + 1, va9, vc9, rfl, congrArg (Value.int .i64) (by omega), by omega, ?_, hbF⟩
          rw [HTK.out]
          exact HO9.out
        case measure => simp only [intOf]; omega
      · have heq := HEN.out hgo
        have hneb : (C0 == C1) = true := by simpa using heq
        go_upto_region 5 with fail
        refine wp_region_held_drew (S := Sx w g m P0 P1 C0 C1) (by kernel_rfl) ?_ (fun hHeld => ?_); focus ((try dsimp only); exact HSX.out.below ((Below.refl _ _).drew))
        have hHeld : Sx w g m P0 P1 C0 C1 _ := hHeld
        obtain ⟨wA, hwA⟩ : ∃ wD, wr.drew = wD := ⟨_, rfl⟩
        have HOA := Lib.hid (HO.out.below (show Below wr.heap.size wr wA by rw [← hwA]; exact (Below.refl _ _).drew))
        rw [hwA] at hHeld ⊢
        clear hwA
        (refine wpAnyH_take (i := 0) (v := ?_) rfl (by kernel_rfl) (by kernel_rfl) (by kernel_rfl) (fun _ _ _ h => h) (Or.inl ⟨rfl, ?_⟩) (by assumption) ?_; rotate_left; focus (intro W hSw; (try dsimp only at hSw); obtain ⟨ibw, i0, i1, i2, i3⟩ := hSw; clear ibw; go_simp; try (with_reducible rfl))); (try simp only [Act.put, List.getElem_toArray, List.getElem_cons_succ, List.getElem_cons_zero, List.setIfInBounds_toArray, List.set_cons_zero, List.set_cons_succ])
        (refine wpAnyH_take (i := 1) (v := ?_) rfl (by kernel_rfl) (by kernel_rfl) (by kernel_rfl) (fun _ _ _ h => h) (Or.inl ⟨rfl, ?_⟩) (by assumption) ?_; rotate_left; focus (intro W hSw; (try dsimp only at hSw); obtain ⟨ibw, i0, i1, i2, i3⟩ := hSw; clear ibw; go_simp; try (with_reducible rfl))); (try simp only [Act.put, List.getElem_toArray, List.getElem_cons_succ, List.getElem_cons_zero, List.setIfInBounds_toArray, List.set_cons_zero, List.set_cons_succ])
        (refine wpAnyH_take (i := 2) (v := ?_) rfl (by kernel_rfl) (by kernel_rfl) (by kernel_rfl) (fun _ _ _ h => h) (Or.inl ⟨rfl, ?_⟩) (by assumption) ?_; rotate_left; focus (intro W hSw; (try dsimp only at hSw); obtain ⟨ibw, i0, i1, i2, i3⟩ := hSw; clear ibw; go_simp; try (with_reducible rfl))); (try simp only [Act.put, List.getElem_toArray, List.getElem_cons_succ, List.getElem_cons_zero, List.setIfInBounds_toArray, List.set_cons_zero, List.set_cons_succ])
        (refine wpAnyH_take (i := 3) (v := ?_) rfl (by kernel_rfl) (by kernel_rfl) (by kernel_rfl) (fun _ _ _ h => h) (Or.inl ⟨rfl, ?_⟩) (by assumption) ?_; rotate_left; focus (intro W hSw; (try dsimp only at hSw); obtain ⟨ibw, i0, i1, i2, i3⟩ := hSw; clear ibw; go_simp; try (with_reducible rfl))); (try simp only [Act.put, List.getElem_toArray, List.getElem_cons_succ, List.getElem_cons_zero, List.setIfInBounds_toArray, List.set_cons_zero, List.set_cons_succ])
        (refine wpAnyH_take (i := 4) (v := ?_) rfl (by kernel_rfl) (by kernel_rfl) (by kernel_rfl) (fun _ _ _ h => h) (Or.inl ⟨rfl, ?_⟩) (by assumption) ?_; rotate_left; focus (intro W hSw; (try dsimp only at hSw); obtain ⟨ibw, i0, i1, i2, i3⟩ := hSw; clear ibw; go_simp; try (with_reducible rfl))); (try simp only [Act.put, List.getElem_toArray, List.getElem_cons_succ, List.getElem_cons_zero, List.setIfInBounds_toArray, List.set_cons_zero, List.set_cons_succ])
        (refine wpAnyH_take (i := 5) (v := ?_) rfl (by kernel_rfl) (by kernel_rfl) (by kernel_rfl) (fun _ _ _ h => h) (Or.inl ⟨rfl, ?_⟩) (by assumption) ?_; rotate_left; focus (intro W hSw; (try dsimp only at hSw); obtain ⟨ibw, i0, i1, i2, i3⟩ := hSw; clear ibw; go_simp; try (with_reducible rfl))); (try simp only [Act.put, List.getElem_toArray, List.getElem_cons_succ, List.getElem_cons_zero, List.setIfInBounds_toArray, List.set_cons_zero, List.set_cons_succ])
        (refine wpAnyH_take (i := 6) (v := ?_) rfl (by kernel_rfl) (by kernel_rfl) (by kernel_rfl) (fun _ _ _ h => h) (Or.inl ⟨rfl, ?_⟩) (by assumption) ?_; rotate_left; focus (intro W hSw; (try dsimp only at hSw); obtain ⟨ibw, i0, i1, i2, i3⟩ := hSw; clear ibw; go_simp; try (with_reducible rfl))); (try simp only [Act.put, List.getElem_toArray, List.getElem_cons_succ, List.getElem_cons_zero, List.setIfInBounds_toArray, List.set_cons_zero, List.set_cons_succ])
        (refine wpAnyH_take (i := 7) (v := ?_) rfl (by kernel_rfl) (by kernel_rfl) (by kernel_rfl) (fun _ _ _ h => h) (Or.inl ⟨rfl, ?_⟩) (by assumption) ?_; rotate_left; focus (intro W hSw; (try dsimp only at hSw); obtain ⟨ibw, i0, i1, i2, i3⟩ := hSw; clear ibw; go_simp; try (with_reducible rfl))); (try simp only [Act.put, List.getElem_toArray, List.getElem_cons_succ, List.getElem_cons_zero, List.setIfInBounds_toArray, List.set_cons_zero, List.set_cons_succ])
        (refine wpAnyH_take (i := 8) (v := ?_) rfl (by kernel_rfl) (by kernel_rfl) (by kernel_rfl) (fun _ _ _ h => h) (Or.inl ⟨rfl, ?_⟩) (by assumption) ?_; rotate_left; focus (intro W hSw; (try dsimp only at hSw); obtain ⟨ibw, i0, i1, i2, i3⟩ := hSw; clear ibw; go_simp; try (with_reducible rfl))); (try simp only [Act.put, List.getElem_toArray, List.getElem_cons_succ, List.getElem_cons_zero, List.setIfInBounds_toArray, List.set_cons_zero, List.set_cons_succ])
        (refine wpAnyH_take (i := 9) (v := ?_) rfl (by kernel_rfl) (by kernel_rfl) (by kernel_rfl) (fun _ _ _ h => h) (Or.inl ⟨rfl, ?_⟩) (by assumption) ?_; rotate_left; focus (intro W hSw; (try dsimp only at hSw); obtain ⟨ibw, i0, i1, i2, i3⟩ := hSw; clear ibw; go_simp; try (with_reducible rfl))); (try simp only [Act.put, List.getElem_toArray, List.getElem_cons_succ, List.getElem_cons_zero, List.setIfInBounds_toArray, List.set_cons_zero, List.set_cons_succ])
        (refine wpAnyH_take (i := 10) (v := ?_) rfl (by kernel_rfl) (by kernel_rfl) (by kernel_rfl) (fun _ _ _ h => h) (Or.inl ⟨rfl, ?_⟩) (by assumption) ?_; rotate_left; focus (intro W hSw; (try dsimp only at hSw); obtain ⟨ibw, i0, i1, i2, i3⟩ := hSw; clear ibw; go_simp; try (with_reducible rfl))); (try simp only [Act.put, List.getElem_toArray, List.getElem_cons_succ, List.getElem_cons_zero, List.setIfInBounds_toArray, List.set_cons_zero, List.set_cons_succ])
        refine wpAnyH_done (by kernel_rfl) ?_ _
        go_wp2_with fail
        go_ret2
        have hlf : L.take (m + 2) = L := List.take_of_length_le (by omega)
        have hln : L.length = m + 2 := by omega
        refine ⟨_, rfl, ?_, hHeld.1⟩
        have := HOA.out
        rw [hlf] at this
        rw [hln]
        exact this
end Go.Proofs.Ytcaleapedomfmaa
