/-
  Three numbers in descending order, equal ones as they stand: the library's stable sort at three places, the numbers at these places (own work).
-/
import Derived.Test.YtbgifgfegndlkaaTrM
namespace Go.Proofs.Ytbgifgfegndlkaa
open Go.ChangeShapes Go.WideShapes Go.ChangeAt Go.RowKit
set_option linter.unusedVariables false
set_option linter.unusedSimpArgs false
set_option maxRecDepth 100000

theorem Bk3.at {w : World} {g : Nat} {a b c : Int} (h : Bk3 w g a b c) {p : Nat} (hp : p < 3) : w.cell? ⟨g, p, none⟩ = some (.int .i64 (pk p a b c)) := by
  obtain ⟨⟨h0, h1, h2⟩, _, _⟩ := h
  match p, hp with
  | 0, _ => exact h0
  | 1, _ => exact h1
  | 2, _ => exact h2
theorem grown_set (w : World) (g j : Nat) (x : Value) : w.grownBy (w.setCell ⟨g, j, none⟩ x) (some g) := by
  refine ⟨rfl, rfl, rfl, by simp, fun i hi hr => ?_⟩
  exact Below.heap_setCell w ⟨g, j, none⟩ x i (by simpa using hr)
theorem grown_drewN {a w : World} {row : Option Nat} (h : a.grownBy w row) (n : Nat) : a.grownBy (w.drewN n) row := ⟨h.os, h.tape, h.output, h.size, h.block⟩
theorem Bk3.grown {w w' : World} {g : Nat} {r : Option Nat} {a b c : Int} (h : Bk3 w g a b c) (hg : w.grownBy w' r) (hne : r ≠ some g) : Bk3 w' g a b c := h.same (hg.block g h.2.2 (fun e => hne e.symm))
/-- One step of the sort, at the first and at the second place. -/
def ins1 (a b c : Int) (s : Nat × Nat × Nat) : Nat × Nat × Nat := if pk s.1 a b c < pk s.2.1 a b c then (s.2.1, s.1, s.2.2) else s
def ins2 (a b c : Int) (s : Nat × Nat × Nat) : Nat × Nat × Nat := if pk s.2.1 a b c < pk s.2.2 a b c then ins1 a b c (s.1, s.2.2, s.2.1) else s
theorem od_ins (a b c : Int) : ins2 a b c (ins1 a b c (0, 1, 2)) = od a b c := by
  unfold od ins2 ins1
  simp only [pk]
  by_cases h1 : a < b <;> by_cases h2 : a < c <;> by_cases h3 : b < c <;> simp [h1, h2, h3]
def sg (a b c : Int) : Nat → Nat × Nat × Nat
  | 0 => (0, 1, 2)
  | 1 => (0, 1, 2)
  | 2 => ins1 a b c (0, 1, 2)
  | _ => od a b c
def lt3 (s : Nat × Nat × Nat) : Prop := s.1 < 3 ∧ s.2.1 < 3 ∧ s.2.2 < 3
theorem lt3_012 : lt3 (0, 1, 2) := by simp [lt3]
theorem ins1_lt {a b c : Int} {s : Nat × Nat × Nat} (h : lt3 s) : lt3 (ins1 a b c s) := by
  unfold ins1
  split
  · exact ⟨h.2.1, h.1, h.2.2⟩
  · exact h
theorem sg_lt (a b c : Int) (k : Nat) : lt3 (sg a b c k) := by
  match k with
  | 0 => exact lt3_012
  | 1 => exact lt3_012
  | 2 => exact ins1_lt lt3_012
  | _ + 3 => exact od_lt a b c
def cmpI (x y : Int) : Int := if x < y then -1 else if y < x then 1 else 0
theorem isNaN_any (x : Int) (w : World) : Calls Try.prog 95 #[.int .i64 x] w fun e w' => e = .returned (.bool false) ∧ w' = w := by
  go_enter Try.func95, Try.ntmps95
  go_wp2
  go_ret
  exact ⟨by simp, rfl⟩
theorem compare_any (x y : Int) (w : World) : Calls Try.prog 89 #[.int .i64 x, .int .i64 y] w fun e w' => e = .returned (.int .i64 (cmpI x y)) ∧ w' = w := by
  unfold cmpI
  by_cases h1 : x < y
  · rw [if_pos h1]
    go_enter Try.func89, Try.ntmps89
    go_wp2_with (go_at_call 95; refine (isNaN_any _ _).mono ?_; rintro e wn ⟨rfl, rfl⟩)
    go_ret
    exact ⟨rfl, rfl⟩
  · rw [if_neg h1]
    by_cases h2 : y < x
    · rw [if_pos h2]
      go_enter Try.func89, Try.ntmps89
      go_wp2_with (go_at_call 95; refine (isNaN_any _ _).mono ?_; rintro e wn ⟨rfl, rfl⟩)
      go_ret
      exact ⟨rfl, rfl⟩
    · rw [if_neg h2]
      go_enter Try.func89, Try.ntmps89
      go_wp2_with (go_at_call 95; refine (isNaN_any _ _).mono ?_; rintro e wn ⟨rfl, rfl⟩)
      go_ret
      exact ⟨rfl, rfl⟩
theorem order1_any (p q : Nat) (a b c : Int) (G : Nat) (w : World) (hp : p < 3) (hq : q < 3) (h : Bk3 w G a b c) :
    Calls Try.prog 88 #[.int .i64 p, .int .i64 q, .pointer (some ⟨G, 0, none⟩)] w fun e w' => e = .returned (.int .i64 (cmpI (pk q a b c) (pk p a b c))) ∧ ∃ m, w' = w.drewN m := by
  have cp := h.at hp
  have cq := h.at hq
  have hz := h.2.2
  obtain ⟨X, hX⟩ : ∃ X, pk p a b c = X := ⟨_, rfl⟩
  obtain ⟨Y, hY⟩ : ∃ Y, pk q a b c = Y := ⟨_, rfl⟩
  rw [hX] at cp ⊢
  rw [hY] at cq ⊢
  have p0 : (0 : Int) ≤ (p : Int) := by omega
  have p1 : (p : Int) < 3 := by omega
  have q0 : (0 : Int) ≤ (q : Int) := by omega
  have q1 : (q : Int) < 3 := by omega
  clear h hX hY
  go_enter Try.func88, Try.ntmps88
  go_wp2
  go_quiet ((go_at_call 89; exact Calls.quiet_of_same (compare_any _ _ _)))
  go_wp2
  go_ret
  exact ⟨rfl, nq, rfl⟩
set_option maxHeartbeats 3200000 in
theorem insertion_any (a b c : Int) (G D : Nat) (w : World) (hG : Bk3 w G a b c) (hD : Bk3 w D 0 1 2) (hne : G ≠ D) :
    Calls Try.prog 97 #[.slice (some ⟨D, 0, none⟩) 3 3, .int .i64 0, .int .i64 3, .func (.func 88) #[] #[.pointer (some ⟨G, 0, none⟩)]] w fun e w' => e = .returned (.tuple #[]) ∧ Bk3 w' D (od a b c).1 (od a b c).2.1 (od a b c).2.2 ∧ w.grownBy w' (some D) := by
  have HG := Lib.hid hG
  have HD0 := Lib.hid hD
  have HNE := Lib.hid hne
  clear hG hD hne
  go_enter Try.func97, Try.ntmps97
  go_wp2_with fail
  go_loopw [8] (fun i wr => ∃ k : Nat, i = .int .i64 (k : Int) ∧ 1 ≤ k ∧ k ≤ 3 ∧ Bk3 wr D (sg a b c k).1 (sg a b c k).2.1 (sg a b c k).2.2 ∧ w.grownBy wr (some D)) (fun i _ => 4 - (intOf i).toNat)
  case atStart => exact ⟨1, rfl, by omega, by omega, HD0.out, World.grownBy.refl _ _⟩
  case round =>
    obtain ⟨k, rfl, hk1, hk3, hD, hgr⟩ := hrel
    have HGR := Lib.hid hgr
    have HD := Lib.hid hD
    clear hD hgr
    by_cases hk : k < 3
    · have HSG : Hid (if k = 1 then ins1 a b c (sg a b c k) = sg a b c (k + 1) else ins2 a b c (sg a b c k) = sg a b c (k + 1)) := by
        show if k = 1 then _ else _
        rcases (show k = 1 ∨ k = 2 by omega) with rfl | rfl
        · rfl
        · exact od_ins a b c
      have HLT := Lib.hid (sg_lt a b c k)
      have hk0 : decide ((k : Int) < 3) = true := by simp; omega
      go_wp2_with fail
      (try rw [hk0])
      go_loopw [9] (fun x wr => ∃ (j p q r : Nat), x = .int .i64 (j : Int) ∧ j ≤ 2 ∧ lt3 (p, q, r) ∧ (if j = 0 then (p, q, r) = sg a b c (k + 1) else if j = 1 then ins1 a b c (p, q, r) = sg a b c (k + 1) else ins2 a b c (p, q, r) = sg a b c (k + 1)) ∧ Bk3 wr D p q r ∧ w.grownBy wr (some D)) (fun x _ => (intOf x).toNat)
      case atStart =>
        refine ⟨k, _, _, _, rfl, by omega, HLT.out, ?_, HD.out, HGR.out⟩
        have := HSG.out
        rw [if_neg (by omega)]
        exact this
      case round =>
        obtain ⟨j, p, q, r, rfl, hj, hl3, hs, hD, hgr⟩ := hrel
        have HL := Lib.hid hl3
        have HS := Lib.hid hs
        have HDr := Lib.hid hD
        have HGr := Lib.hid hgr
        have HGk : Hid (Bk3 wr G a b c) := HG.out.grown HGr.out (fun e => HNE.out (Option.some.inj e).symm)
        clear hl3 hs hD hgr
        rcases (show j = 0 ∨ j = 1 ∨ j = 2 by omega) with rfl | rfl | rfl
        · rw [show ((0 : Nat) : Int) = 0 from rfl]
          go_upto_region 4 with fail
          go_quiet (fail)
          go_wp2_with fail
          go_roundw
          case rel =>
            have e := HS.out
            rw [if_pos rfl] at e
            refine ⟨k + 1, by go_num, by omega, by omega, ?_, grown_drewN HGr.out _⟩
            rw [← e]
            exact HDr.out
          case measure => simp only [intOf]; omega
        · rw [show ((1 : Nat) : Int) = 1 from rfl]
          obtain ⟨⟨i0, i1, i2⟩, ⟨f0, f1, f2⟩, hz⟩ := HDr.out
          have HO := Lib.hid (fun n => order1_any q p a b c G (wr.drewN n) HL.out.2.1 HL.out.1 (HGk.out))
          obtain ⟨X, hX⟩ : ∃ X, cmpI (pk p a b c) (pk q a b c) = X := ⟨_, rfl⟩
          rw [hX] at HO
          have cu := i0
          have cv := i1
          go_upto_region 4 with fail
          go_quiet ((go_at_call 88; exact Calls.quiet_of (HO.out _)))
          by_cases hlt : pk p a b c < pk q a b c
          · have hX1 : X < 0 := by rw [← hX]; unfold cmpI; rw [if_pos hlt]; decide
            have HS2 : Hid ((q, p, r) = sg a b c (k + 1)) := by
              have e := HS.out
              simp only [if_neg (show ¬ (1 = 0) by decide), if_true] at e
              show _ = _
              rw [← e, ins1, if_pos hlt]
            clear hX hlt
            go_wp2_with fail
            have hw0 : IntKind.i64.wrap 0 = 0 := by rw [IntKind.wrap_i64]; omega
            have hw1 : IntKind.i64.wrap 1 = 1 := by rw [IntKind.wrap_i64]; omega
            go_upto_region 6 with fail
            refine wp_region_held_drew (S := fun _ => True) (by kernel_rfl) trivial (fun hHeld => ?_)
            obtain ⟨w2, hw2⟩ : ∃ w2, (wr.drewN nq).drew = w2 := ⟨_, rfl⟩
            (try rw [World.drew_drewN] at hw2 ⊢)
            rw [hw2]
            have HG2 : Hid (w.grownBy w2 (some D)) := by show World.grownBy _ _ _; rw [← hw2]; exact grown_drewN HGr.out _
            have HB2 : Hid (Bk3 w2 D p q r) := by show Bk3 _ _ _ _ _; rw [← hw2]; exact HDr.out
            obtain ⟨⟨k0, k1, k2⟩, ⟨g0, g1, g2⟩, hz2⟩ := HB2.out
            clear hw2 i0 i1 i2 f0 f1 f2 hz cu cv
            (refine wpAnyH_take (i := 0) (v := ?_) rfl (by kernel_rfl) (by kernel_rfl) (by kernel_rfl) (fun _ _ _ h => h) (Or.inl ⟨rfl, ?_⟩) (by assumption) ?_; rotate_left; focus (intro W hSw; (try dsimp only at hSw); skip; go_simp; try (with_reducible rfl))); (try simp only [Act.put, List.getElem_toArray, List.getElem_cons_succ, List.getElem_cons_zero, List.setIfInBounds_toArray, List.set_cons_zero, List.set_cons_succ])
            (refine wpAnyH_take (i := 1) (v := ?_) rfl (by kernel_rfl) (by kernel_rfl) (by kernel_rfl) (fun _ _ _ h => h) (Or.inl ⟨rfl, ?_⟩) (by assumption) ?_; rotate_left; focus (intro W hSw; (try dsimp only at hSw); skip; go_simp; try (with_reducible rfl))); (try simp only [Act.put, List.getElem_toArray, List.getElem_cons_succ, List.getElem_cons_zero, List.setIfInBounds_toArray, List.set_cons_zero, List.set_cons_succ])
            (refine wpAnyH_take (i := 2) (v := ?_) rfl (by kernel_rfl) (by kernel_rfl) (by kernel_rfl) (fun _ _ _ h => h) (Or.inl ⟨rfl, ?_⟩) (by assumption) ?_; rotate_left; focus (intro W hSw; (try dsimp only at hSw); skip; go_simp; try (with_reducible rfl))); (try simp only [Act.put, List.getElem_toArray, List.getElem_cons_succ, List.getElem_cons_zero, List.setIfInBounds_toArray, List.set_cons_zero, List.set_cons_succ])
            (refine wpAnyH_take (i := 3) (v := ?_) rfl (by kernel_rfl) (by kernel_rfl) (by kernel_rfl) (fun _ _ _ h => h) (Or.inl ⟨rfl, ?_⟩) (by assumption) ?_; rotate_left; focus (intro W hSw; (try dsimp only at hSw); skip; go_simp; try (with_reducible rfl))); (try simp only [Act.put, List.getElem_toArray, List.getElem_cons_succ, List.getElem_cons_zero, List.setIfInBounds_toArray, List.set_cons_zero, List.set_cons_succ])
            (refine wpAnyH_take (i := 4) (v := ?_) rfl (by kernel_rfl) (by kernel_rfl) (by kernel_rfl) (fun _ _ _ h => h) (Or.inl ⟨rfl, ?_⟩) (by assumption) ?_; rotate_left; focus (intro W hSw; (try dsimp only at hSw); skip; go_simp; try (with_reducible rfl))); (try simp only [Act.put, List.getElem_toArray, List.getElem_cons_succ, List.getElem_cons_zero, List.setIfInBounds_toArray, List.set_cons_zero, List.set_cons_succ])
            (refine wpAnyH_take (i := 5) (v := ?_) rfl (by kernel_rfl) (by kernel_rfl) (by kernel_rfl) (fun _ _ _ h => h) (Or.inl ⟨rfl, ?_⟩) (by assumption) ?_; rotate_left; focus (intro W hSw; (try dsimp only at hSw); skip; go_simp; try (with_reducible rfl))); (try simp only [Act.put, List.getElem_toArray, List.getElem_cons_succ, List.getElem_cons_zero, List.setIfInBounds_toArray, List.set_cons_zero, List.set_cons_succ])
            (refine wpAnyH_take (i := 6) (v := ?_) rfl (by kernel_rfl) (by kernel_rfl) (by kernel_rfl) (fun _ _ _ h => h) (Or.inl ⟨rfl, ?_⟩) (by assumption) ?_; rotate_left; focus (intro W hSw; (try dsimp only at hSw); skip; go_simp; try (with_reducible rfl))); (try simp only [Act.put, List.getElem_toArray, List.getElem_cons_succ, List.getElem_cons_zero, List.setIfInBounds_toArray, List.set_cons_zero, List.set_cons_succ])
            (refine wpAnyH_take (i := 7) (v := ?_) rfl (by kernel_rfl) (by kernel_rfl) (by kernel_rfl) (fun _ _ _ h => h) (Or.inl ⟨rfl, ?_⟩) (by assumption) ?_; rotate_left; focus (intro W hSw; (try dsimp only at hSw); skip; go_simp; try (with_reducible rfl))); (try simp only [Act.put, List.getElem_toArray, List.getElem_cons_succ, List.getElem_cons_zero, List.setIfInBounds_toArray, List.set_cons_zero, List.set_cons_succ])
            (refine wpAnyH_take (i := 8) (v := ?_) rfl (by kernel_rfl) (by kernel_rfl) (by kernel_rfl) (fun _ _ _ h => h) (Or.inl ⟨rfl, ?_⟩) (by assumption) ?_; rotate_left; focus (intro W hSw; (try dsimp only at hSw); skip; go_simp; try (with_reducible rfl))); (try simp only [Act.put, List.getElem_toArray, List.getElem_cons_succ, List.getElem_cons_zero, List.setIfInBounds_toArray, List.set_cons_zero, List.set_cons_succ])
            (refine wpAnyH_take (i := 10) (v := ?_) rfl (by kernel_rfl) (by kernel_rfl) (by kernel_rfl) (fun _ _ _ h => h) (Or.inl ⟨rfl, ?_⟩) (by assumption) ?_; rotate_left; focus (intro W hSw; (try dsimp only at hSw); skip; go_simp; try (with_reducible rfl))); (try simp only [Act.put, List.getElem_toArray, List.getElem_cons_succ, List.getElem_cons_zero, List.setIfInBounds_toArray, List.set_cons_zero, List.set_cons_succ])
            (refine wpAnyH_take (i := 11) (v := ?_) rfl (by kernel_rfl) (by kernel_rfl) (by kernel_rfl) (fun _ _ _ h => h) (Or.inl ⟨rfl, ?_⟩) (by assumption) ?_; rotate_left; focus (intro W hSw; (try dsimp only at hSw); skip; go_simp; try (with_reducible rfl))); (try simp only [Act.put, List.getElem_toArray, List.getElem_cons_succ, List.getElem_cons_zero, List.setIfInBounds_toArray, List.set_cons_zero, List.set_cons_succ])
            (refine wpAnyH_take (i := 12) (v := ?_) rfl (by kernel_rfl) (by kernel_rfl) (by kernel_rfl) (fun _ _ _ h => h) (Or.inl ⟨rfl, ?_⟩) (by assumption) ?_; rotate_left; focus (intro W hSw; (try dsimp only at hSw); skip; go_simp; try (with_reducible rfl))); (try simp only [Act.put, List.getElem_toArray, List.getElem_cons_succ, List.getElem_cons_zero, List.setIfInBounds_toArray, List.set_cons_zero, List.set_cons_succ])
            refine wpAnyH_ready (rs := [9, 13]) (by kernel_rfl) (by simp) ?_; refine (AllReadyH.cons rfl (fun K hK => ?_) (AllReadyH.cons rfl (fun K hK => ?_) AllReadyH.nil))
            · skip
              go_simp; refine hK.out _ _ trivial (fun _ => ?_); (clear hK K); (try simp only [Act.put, List.getElem_toArray, List.getElem_cons_succ, List.getElem_cons_zero, List.setIfInBounds_toArray, List.set_cons_zero, List.set_cons_succ])
              refine wpAnyH_ready (rs := [13]) (by kernel_rfl) (by simp) ?_; refine (AllReadyH.cons rfl (fun K hK => ?_) AllReadyH.nil)
              go_simp; refine hK.out _ _ trivial (fun _ => ?_); (clear hK K); (try simp only [Act.put, List.getElem_toArray, List.getElem_cons_succ, List.getElem_cons_zero, List.setIfInBounds_toArray, List.set_cons_zero, List.set_cons_succ])
              (refine wpAnyH_take (i := 14) (v := ?_) rfl (by kernel_rfl) (by kernel_rfl) (by kernel_rfl) (fun _ _ _ h => h) (Or.inl ⟨rfl, ?_⟩) (by assumption) ?_; rotate_left; focus (intro W hSw; (try dsimp only at hSw); skip; go_simp; try (with_reducible rfl))); (try simp only [Act.put, List.getElem_toArray, List.getElem_cons_succ, List.getElem_cons_zero, List.setIfInBounds_toArray, List.set_cons_zero, List.set_cons_succ])
              refine wpAnyH_ready (rs := [15]) (by kernel_rfl) (by simp) ?_; refine (AllReadyH.cons rfl (fun K hK => ?_) AllReadyH.nil)
              go_simp; refine hK.out _ _ trivial (fun _ => ?_); (clear hK K); (try simp only [Act.put, List.getElem_toArray, List.getElem_cons_succ, List.getElem_cons_zero, List.setIfInBounds_toArray, List.set_cons_zero, List.set_cons_succ])
              (refine wpAnyH_take (i := 16) (v := ?_) rfl (by kernel_rfl) (by kernel_rfl) (by kernel_rfl) (fun _ _ _ h => h) (Or.inl ⟨rfl, ?_⟩) (by assumption) ?_; rotate_left; focus (intro W hSw; (try dsimp only at hSw); skip; go_simp; try (with_reducible rfl))); (try simp only [Act.put, List.getElem_toArray, List.getElem_cons_succ, List.getElem_cons_zero, List.setIfInBounds_toArray, List.set_cons_zero, List.set_cons_succ])
              refine wpAnyH_ready (rs := [17]) (by kernel_rfl) (by simp) ?_; refine (AllReadyH.cons rfl (fun K hK => ?_) AllReadyH.nil)
              go_simp; refine hK.out _ _ trivial (fun _ => ?_); (clear hK K); (try simp only [Act.put, List.getElem_toArray, List.getElem_cons_succ, List.getElem_cons_zero, List.setIfInBounds_toArray, List.set_cons_zero, List.set_cons_succ])
              refine wpAnyH_done (by kernel_rfl) ?_ _
              go_wp2_with fail
              go_roundw
              case rel =>
                refine ⟨0, q, p, r, by first | rfl | go_num, by omega, ?_, (by rw [if_pos rfl]; exact HS2.out), (HB2.out.set1 p).set0 q, ?_⟩
                · exact ⟨HL.out.2.1, HL.out.1, HL.out.2.2⟩
                · exact grown_trans (grown_trans HG2.out (grown_set _ _ _ _)) (grown_set _ _ _ _)
              case measure => simp only [intOf]; omega
            · skip
              go_simp; refine hK.out _ _ trivial (fun _ => ?_); (clear hK K); (try simp only [Act.put, List.getElem_toArray, List.getElem_cons_succ, List.getElem_cons_zero, List.setIfInBounds_toArray, List.set_cons_zero, List.set_cons_succ])
              refine wpAnyH_ready (rs := [9]) (by kernel_rfl) (by simp) ?_; refine (AllReadyH.cons rfl (fun K hK => ?_) AllReadyH.nil)
              go_simp; refine hK.out _ _ trivial (fun _ => ?_); (clear hK K); (try simp only [Act.put, List.getElem_toArray, List.getElem_cons_succ, List.getElem_cons_zero, List.setIfInBounds_toArray, List.set_cons_zero, List.set_cons_succ])
              (refine wpAnyH_take (i := 14) (v := ?_) rfl (by kernel_rfl) (by kernel_rfl) (by kernel_rfl) (fun _ _ _ h => h) (Or.inl ⟨rfl, ?_⟩) (by assumption) ?_; rotate_left; focus (intro W hSw; (try dsimp only at hSw); skip; go_simp; try (with_reducible rfl))); (try simp only [Act.put, List.getElem_toArray, List.getElem_cons_succ, List.getElem_cons_zero, List.setIfInBounds_toArray, List.set_cons_zero, List.set_cons_succ])
              refine wpAnyH_ready (rs := [15]) (by kernel_rfl) (by simp) ?_; refine (AllReadyH.cons rfl (fun K hK => ?_) AllReadyH.nil)
              go_simp; refine hK.out _ _ trivial (fun _ => ?_); (clear hK K); (try simp only [Act.put, List.getElem_toArray, List.getElem_cons_succ, List.getElem_cons_zero, List.setIfInBounds_toArray, List.set_cons_zero, List.set_cons_succ])
              (refine wpAnyH_take (i := 16) (v := ?_) rfl (by kernel_rfl) (by kernel_rfl) (by kernel_rfl) (fun _ _ _ h => h) (Or.inl ⟨rfl, ?_⟩) (by assumption) ?_; rotate_left; focus (intro W hSw; (try dsimp only at hSw); skip; go_simp; try (with_reducible rfl))); (try simp only [Act.put, List.getElem_toArray, List.getElem_cons_succ, List.getElem_cons_zero, List.setIfInBounds_toArray, List.set_cons_zero, List.set_cons_succ])
              refine wpAnyH_ready (rs := [17]) (by kernel_rfl) (by simp) ?_; refine (AllReadyH.cons rfl (fun K hK => ?_) AllReadyH.nil)
              go_simp; refine hK.out _ _ trivial (fun _ => ?_); (clear hK K); (try simp only [Act.put, List.getElem_toArray, List.getElem_cons_succ, List.getElem_cons_zero, List.setIfInBounds_toArray, List.set_cons_zero, List.set_cons_succ])
              refine wpAnyH_done (by kernel_rfl) ?_ _
              go_wp2_with fail
              go_roundw
              case rel =>
                refine ⟨0, q, p, r, by first | rfl | go_num, by omega, ?_, (by rw [if_pos rfl]; exact HS2.out), (HB2.out.set1 p).set0 q, ?_⟩
                · exact ⟨HL.out.2.1, HL.out.1, HL.out.2.2⟩
                · exact grown_trans (grown_trans HG2.out (grown_set _ _ _ _)) (grown_set _ _ _ _)
              case measure => simp only [intOf]; omega
          · have hX1 : 0 ≤ X := by rw [← hX]; unfold cmpI; rw [if_neg hlt]; split <;> decide
            have HS2 : Hid ((p, q, r) = sg a b c (k + 1)) := by
              have e := HS.out
              simp only [if_neg (show ¬ (1 = 0) by decide), if_true] at e
              show _ = _
              rw [← e, ins1, if_neg hlt]
            clear hX hlt i0 i1 i2 f0 f1 f2 hz cu cv
            go_wp2_with fail
            go_roundw
            case rel =>
              refine ⟨k + 1, by go_num, by omega, by omega, ?_, grown_drewN HGr.out _⟩
              rw [← HS2.out]
              exact HDr.out
            case measure => simp only [intOf]; omega
        · rw [show ((2 : Nat) : Int) = 2 from rfl]
          obtain ⟨⟨i0, i1, i2⟩, ⟨f0, f1, f2⟩, hz⟩ := HDr.out
          have HO := Lib.hid (fun n => order1_any r q a b c G (wr.drewN n) HL.out.2.2 HL.out.2.1 (HGk.out))
          obtain ⟨X, hX⟩ : ∃ X, cmpI (pk q a b c) (pk r a b c) = X := ⟨_, rfl⟩
          rw [hX] at HO
          have cu := i1
          have cv := i2
          go_upto_region 4 with fail
          go_quiet ((go_at_call 88; exact Calls.quiet_of (HO.out _)))
          by_cases hlt : pk q a b c < pk r a b c
          · have hX1 : X < 0 := by rw [← hX]; unfold cmpI; rw [if_pos hlt]; decide
            have HS2 : Hid (ins1 a b c (p, r, q) = sg a b c (k + 1)) := by
              have e := HS.out
              simp only [if_neg (show ¬ (2 = 0) by decide), if_neg (show ¬ (2 = 1) by decide)] at e
              show _ = _
              rw [← e, ins2, if_pos hlt]
            clear hX hlt
            go_wp2_with fail
            have hw0 : IntKind.i64.wrap 0 = 0 := by rw [IntKind.wrap_i64]; omega
            have hw1 : IntKind.i64.wrap 1 = 1 := by rw [IntKind.wrap_i64]; omega
            go_upto_region 6 with fail
            refine wp_region_held_drew (S := fun _ => True) (by kernel_rfl) trivial (fun hHeld => ?_)
            obtain ⟨w2, hw2⟩ : ∃ w2, (wr.drewN nq).drew = w2 := ⟨_, rfl⟩
            (try rw [World.drew_drewN] at hw2 ⊢)
            rw [hw2]
            have HG2 : Hid (w.grownBy w2 (some D)) := by show World.grownBy _ _ _; rw [← hw2]; exact grown_drewN HGr.out _
            have HB2 : Hid (Bk3 w2 D p q r) := by show Bk3 _ _ _ _ _; rw [← hw2]; exact HDr.out
            obtain ⟨⟨k0, k1, k2⟩, ⟨g0, g1, g2⟩, hz2⟩ := HB2.out
            clear hw2 i0 i1 i2 f0 f1 f2 hz cu cv
            (refine wpAnyH_take (i := 0) (v := ?_) rfl (by kernel_rfl) (by kernel_rfl) (by kernel_rfl) (fun _ _ _ h => h) (Or.inl ⟨rfl, ?_⟩) (by assumption) ?_; rotate_left; focus (intro W hSw; (try dsimp only at hSw); skip; go_simp; try (with_reducible rfl))); (try simp only [Act.put, List.getElem_toArray, List.getElem_cons_succ, List.getElem_cons_zero, List.setIfInBounds_toArray, List.set_cons_zero, List.set_cons_succ])
            (refine wpAnyH_take (i := 1) (v := ?_) rfl (by kernel_rfl) (by kernel_rfl) (by kernel_rfl) (fun _ _ _ h => h) (Or.inl ⟨rfl, ?_⟩) (by assumption) ?_; rotate_left; focus (intro W hSw; (try dsimp only at hSw); skip; go_simp; try (with_reducible rfl))); (try simp only [Act.put, List.getElem_toArray, List.getElem_cons_succ, List.getElem_cons_zero, List.setIfInBounds_toArray, List.set_cons_zero, List.set_cons_succ])
            (refine wpAnyH_take (i := 2) (v := ?_) rfl (by kernel_rfl) (by kernel_rfl) (by kernel_rfl) (fun _ _ _ h => h) (Or.inl ⟨rfl, ?_⟩) (by assumption) ?_; rotate_left; focus (intro W hSw; (try dsimp only at hSw); skip; go_simp; try (with_reducible rfl))); (try simp only [Act.put, List.getElem_toArray, List.getElem_cons_succ, List.getElem_cons_zero, List.setIfInBounds_toArray, List.set_cons_zero, List.set_cons_succ])
            (refine wpAnyH_take (i := 3) (v := ?_) rfl (by kernel_rfl) (by kernel_rfl) (by kernel_rfl) (fun _ _ _ h => h) (Or.inl ⟨rfl, ?_⟩) (by assumption) ?_; rotate_left; focus (intro W hSw; (try dsimp only at hSw); skip; go_simp; try (with_reducible rfl))); (try simp only [Act.put, List.getElem_toArray, List.getElem_cons_succ, List.getElem_cons_zero, List.setIfInBounds_toArray, List.set_cons_zero, List.set_cons_succ])
            (refine wpAnyH_take (i := 4) (v := ?_) rfl (by kernel_rfl) (by kernel_rfl) (by kernel_rfl) (fun _ _ _ h => h) (Or.inl ⟨rfl, ?_⟩) (by assumption) ?_; rotate_left; focus (intro W hSw; (try dsimp only at hSw); skip; go_simp; try (with_reducible rfl))); (try simp only [Act.put, List.getElem_toArray, List.getElem_cons_succ, List.getElem_cons_zero, List.setIfInBounds_toArray, List.set_cons_zero, List.set_cons_succ])
            (refine wpAnyH_take (i := 5) (v := ?_) rfl (by kernel_rfl) (by kernel_rfl) (by kernel_rfl) (fun _ _ _ h => h) (Or.inl ⟨rfl, ?_⟩) (by assumption) ?_; rotate_left; focus (intro W hSw; (try dsimp only at hSw); skip; go_simp; try (with_reducible rfl))); (try simp only [Act.put, List.getElem_toArray, List.getElem_cons_succ, List.getElem_cons_zero, List.setIfInBounds_toArray, List.set_cons_zero, List.set_cons_succ])
            (refine wpAnyH_take (i := 6) (v := ?_) rfl (by kernel_rfl) (by kernel_rfl) (by kernel_rfl) (fun _ _ _ h => h) (Or.inl ⟨rfl, ?_⟩) (by assumption) ?_; rotate_left; focus (intro W hSw; (try dsimp only at hSw); skip; go_simp; try (with_reducible rfl))); (try simp only [Act.put, List.getElem_toArray, List.getElem_cons_succ, List.getElem_cons_zero, List.setIfInBounds_toArray, List.set_cons_zero, List.set_cons_succ])
            (refine wpAnyH_take (i := 7) (v := ?_) rfl (by kernel_rfl) (by kernel_rfl) (by kernel_rfl) (fun _ _ _ h => h) (Or.inl ⟨rfl, ?_⟩) (by assumption) ?_; rotate_left; focus (intro W hSw; (try dsimp only at hSw); skip; go_simp; try (with_reducible rfl))); (try simp only [Act.put, List.getElem_toArray, List.getElem_cons_succ, List.getElem_cons_zero, List.setIfInBounds_toArray, List.set_cons_zero, List.set_cons_succ])
            (refine wpAnyH_take (i := 8) (v := ?_) rfl (by kernel_rfl) (by kernel_rfl) (by kernel_rfl) (fun _ _ _ h => h) (Or.inl ⟨rfl, ?_⟩) (by assumption) ?_; rotate_left; focus (intro W hSw; (try dsimp only at hSw); skip; go_simp; try (with_reducible rfl))); (try simp only [Act.put, List.getElem_toArray, List.getElem_cons_succ, List.getElem_cons_zero, List.setIfInBounds_toArray, List.set_cons_zero, List.set_cons_succ])
            (refine wpAnyH_take (i := 10) (v := ?_) rfl (by kernel_rfl) (by kernel_rfl) (by kernel_rfl) (fun _ _ _ h => h) (Or.inl ⟨rfl, ?_⟩) (by assumption) ?_; rotate_left; focus (intro W hSw; (try dsimp only at hSw); skip; go_simp; try (with_reducible rfl))); (try simp only [Act.put, List.getElem_toArray, List.getElem_cons_succ, List.getElem_cons_zero, List.setIfInBounds_toArray, List.set_cons_zero, List.set_cons_succ])
            (refine wpAnyH_take (i := 11) (v := ?_) rfl (by kernel_rfl) (by kernel_rfl) (by kernel_rfl) (fun _ _ _ h => h) (Or.inl ⟨rfl, ?_⟩) (by assumption) ?_; rotate_left; focus (intro W hSw; (try dsimp only at hSw); skip; go_simp; try (with_reducible rfl))); (try simp only [Act.put, List.getElem_toArray, List.getElem_cons_succ, List.getElem_cons_zero, List.setIfInBounds_toArray, List.set_cons_zero, List.set_cons_succ])
            (refine wpAnyH_take (i := 12) (v := ?_) rfl (by kernel_rfl) (by kernel_rfl) (by kernel_rfl) (fun _ _ _ h => h) (Or.inl ⟨rfl, ?_⟩) (by assumption) ?_; rotate_left; focus (intro W hSw; (try dsimp only at hSw); skip; go_simp; try (with_reducible rfl))); (try simp only [Act.put, List.getElem_toArray, List.getElem_cons_succ, List.getElem_cons_zero, List.setIfInBounds_toArray, List.set_cons_zero, List.set_cons_succ])
            refine wpAnyH_ready (rs := [9, 13]) (by kernel_rfl) (by simp) ?_; refine (AllReadyH.cons rfl (fun K hK => ?_) (AllReadyH.cons rfl (fun K hK => ?_) AllReadyH.nil))
            · skip
              go_simp; refine hK.out _ _ trivial (fun _ => ?_); (clear hK K); (try simp only [Act.put, List.getElem_toArray, List.getElem_cons_succ, List.getElem_cons_zero, List.setIfInBounds_toArray, List.set_cons_zero, List.set_cons_succ])
              refine wpAnyH_ready (rs := [13]) (by kernel_rfl) (by simp) ?_; refine (AllReadyH.cons rfl (fun K hK => ?_) AllReadyH.nil)
              go_simp; refine hK.out _ _ trivial (fun _ => ?_); (clear hK K); (try simp only [Act.put, List.getElem_toArray, List.getElem_cons_succ, List.getElem_cons_zero, List.setIfInBounds_toArray, List.set_cons_zero, List.set_cons_succ])
              (refine wpAnyH_take (i := 14) (v := ?_) rfl (by kernel_rfl) (by kernel_rfl) (by kernel_rfl) (fun _ _ _ h => h) (Or.inl ⟨rfl, ?_⟩) (by assumption) ?_; rotate_left; focus (intro W hSw; (try dsimp only at hSw); skip; go_simp; try (with_reducible rfl))); (try simp only [Act.put, List.getElem_toArray, List.getElem_cons_succ, List.getElem_cons_zero, List.setIfInBounds_toArray, List.set_cons_zero, List.set_cons_succ])
              refine wpAnyH_ready (rs := [15]) (by kernel_rfl) (by simp) ?_; refine (AllReadyH.cons rfl (fun K hK => ?_) AllReadyH.nil)
              go_simp; refine hK.out _ _ trivial (fun _ => ?_); (clear hK K); (try simp only [Act.put, List.getElem_toArray, List.getElem_cons_succ, List.getElem_cons_zero, List.setIfInBounds_toArray, List.set_cons_zero, List.set_cons_succ])
              (refine wpAnyH_take (i := 16) (v := ?_) rfl (by kernel_rfl) (by kernel_rfl) (by kernel_rfl) (fun _ _ _ h => h) (Or.inl ⟨rfl, ?_⟩) (by assumption) ?_; rotate_left; focus (intro W hSw; (try dsimp only at hSw); skip; go_simp; try (with_reducible rfl))); (try simp only [Act.put, List.getElem_toArray, List.getElem_cons_succ, List.getElem_cons_zero, List.setIfInBounds_toArray, List.set_cons_zero, List.set_cons_succ])
              refine wpAnyH_ready (rs := [17]) (by kernel_rfl) (by simp) ?_; refine (AllReadyH.cons rfl (fun K hK => ?_) AllReadyH.nil)
              go_simp; refine hK.out _ _ trivial (fun _ => ?_); (clear hK K); (try simp only [Act.put, List.getElem_toArray, List.getElem_cons_succ, List.getElem_cons_zero, List.setIfInBounds_toArray, List.set_cons_zero, List.set_cons_succ])
              refine wpAnyH_done (by kernel_rfl) ?_ _
              go_wp2_with fail
              go_roundw
              case rel =>
                refine ⟨1, p, r, q, by first | rfl | go_num, by omega, ?_, (by rw [if_neg (by decide), if_pos rfl]; exact HS2.out), (HB2.out.set2 q).set1 r, ?_⟩
                · exact ⟨HL.out.1, HL.out.2.2, HL.out.2.1⟩
                · exact grown_trans (grown_trans HG2.out (grown_set _ _ _ _)) (grown_set _ _ _ _)
              case measure => simp only [intOf]; omega
            · skip
              go_simp; refine hK.out _ _ trivial (fun _ => ?_); (clear hK K); (try simp only [Act.put, List.getElem_toArray, List.getElem_cons_succ, List.getElem_cons_zero, List.setIfInBounds_toArray, List.set_cons_zero, List.set_cons_succ])
              refine wpAnyH_ready (rs := [9]) (by kernel_rfl) (by simp) ?_; refine (AllReadyH.cons rfl (fun K hK => ?_) AllReadyH.nil)
              go_simp; refine hK.out _ _ trivial (fun _ => ?_); (clear hK K); (try simp only [Act.put, List.getElem_toArray, List.getElem_cons_succ, List.getElem_cons_zero, List.setIfInBounds_toArray, List.set_cons_zero, List.set_cons_succ])
              (refine wpAnyH_take (i := 14) (v := ?_) rfl (by kernel_rfl) (by kernel_rfl) (by kernel_rfl) (fun _ _ _ h => h) (Or.inl ⟨rfl, ?_⟩) (by assumption) ?_; rotate_left; focus (intro W hSw; (try dsimp only at hSw); skip; go_simp; try (with_reducible rfl))); (try simp only [Act.put, List.getElem_toArray, List.getElem_cons_succ, List.getElem_cons_zero, List.setIfInBounds_toArray, List.set_cons_zero, List.set_cons_succ])
              refine wpAnyH_ready (rs := [15]) (by kernel_rfl) (by simp) ?_; refine (AllReadyH.cons rfl (fun K hK => ?_) AllReadyH.nil)
              go_simp; refine hK.out _ _ trivial (fun _ => ?_); (clear hK K); (try simp only [Act.put, List.getElem_toArray, List.getElem_cons_succ, List.getElem_cons_zero, List.setIfInBounds_toArray, List.set_cons_zero, List.set_cons_succ])
              (refine wpAnyH_take (i := 16) (v := ?_) rfl (by kernel_rfl) (by kernel_rfl) (by kernel_rfl) (fun _ _ _ h => h) (Or.inl ⟨rfl, ?_⟩) (by assumption) ?_; rotate_left; focus (intro W hSw; (try dsimp only at hSw); skip; go_simp; try (with_reducible rfl))); (try simp only [Act.put, List.getElem_toArray, List.getElem_cons_succ, List.getElem_cons_zero, List.setIfInBounds_toArray, List.set_cons_zero, List.set_cons_succ])
              refine wpAnyH_ready (rs := [17]) (by kernel_rfl) (by simp) ?_; refine (AllReadyH.cons rfl (fun K hK => ?_) AllReadyH.nil)
              go_simp; refine hK.out _ _ trivial (fun _ => ?_); (clear hK K); (try simp only [Act.put, List.getElem_toArray, List.getElem_cons_succ, List.getElem_cons_zero, List.setIfInBounds_toArray, List.set_cons_zero, List.set_cons_succ])
              refine wpAnyH_done (by kernel_rfl) ?_ _
              go_wp2_with fail
              go_roundw
              case rel =>
                refine ⟨1, p, r, q, by first | rfl | go_num, by omega, ?_, (by rw [if_neg (by decide), if_pos rfl]; exact HS2.out), (HB2.out.set2 q).set1 r, ?_⟩
                · exact ⟨HL.out.1, HL.out.2.2, HL.out.2.1⟩
                · exact grown_trans (grown_trans HG2.out (grown_set _ _ _ _)) (grown_set _ _ _ _)
              case measure => simp only [intOf]; omega
          · have hX1 : 0 ≤ X := by rw [← hX]; unfold cmpI; rw [if_neg hlt]; split <;> decide
            have HS2 : Hid ((p, q, r) = sg a b c (k + 1)) := by
              have e := HS.out
              simp only [if_neg (show ¬ (2 = 0) by decide), if_neg (show ¬ (2 = 1) by decide)] at e
              show _ = _
              rw [← e, ins2, if_neg hlt]
            clear hX hlt i0 i1 i2 f0 f1 f2 hz cu cv
            go_wp2_with fail
            go_roundw
            case rel =>
              refine ⟨k + 1, by go_num, by omega, by omega, ?_, grown_drewN HGr.out _⟩
              rw [← HS2.out]
              exact HDr.out
            case measure => simp only [intOf]; omega
    · have hk4 : k = 3 := by omega
      subst hk4
      go_wp2_with fail
      go_end0
      exact ⟨rfl, HD.out, HGR.out⟩
end Go.Proofs.Ytbgifgfegndlkaa
