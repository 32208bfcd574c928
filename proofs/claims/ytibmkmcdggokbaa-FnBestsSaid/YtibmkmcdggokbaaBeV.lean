/-
  The draw of a ratio and a point (FnBests) (own work).
-/
import Derived.Test.YtibmkmcdggokbaaBeD
import Derived.Test.YtibmkmcdggokbaaCvS
import Derived.Test.YtibmkmcdggokbaaIcV
import Derived.Test.YtibmkmcdggokbaaOwn
import Derived.Deep.DeepCutAuto
namespace Go.Proofs.Ytibmkmcdggokbaa
open Go.ChangeShapes Go.WideShapes Go.ChangeAt Go.RowKit
set_option linter.unusedVariables false
set_option linter.unusedSimpArgs false
set_option maxRecDepth 100000

theorem OwnF.monoB {B B' : Nat} {w : World} {v : Value} {n : Nat} {xs : List Int} (h : OwnF B w v n xs) (hb : B' ≤ B) : OwnF B' w v n xs :=
  ⟨h.1, h.2.imp id fun ⟨g, cap, cur, h1, h2, h3⟩ => ⟨g, cap, cur, h1, Nat.le_trans hb h2, h3⟩⟩
theorem OwnF.grows {B : Nat} {w w' : World} {v : Value} {n : Nat} {xs : List Int} {s : Nat} (h : OwnF B w v n xs) (hg : w.grownBy w' (some s)) (hs : s < B) : OwnF B w' v n xs :=
  World.ownsRow.kept h hg (.inr (fun e => by have := (World.ownsRow.lt h _ e).1; omega))
theorem conv_some (p q : Int) : ∃ (ps : List (Int × Int)) (c : Int), (∀ w, Calls Try.prog 28 #[.int .i64 p, .int .i64 q] w (RetPC w ps c)) ∧ (c = 0 → 1 ≤ ps.length ∧ ps.length ≤ 1000001) := by
  cases h : ratB p q
  · exact ⟨[], 2, fun w => spec_ConvergentsOf_no p q w h, fun h => absurd h (by decide)⟩
  · obtain ⟨hp, h1, h2⟩ := ratB_iff.1 h
    refine ⟨_, 0, fun w => spec_ConvergentsOf_yes p q w h, fun _ => ?_⟩
    rw [cvs_len]
    have := expI_len p q
    have e := expI_step p q h1
    constructor
    · rw [e]; simp
    · omega
set_option maxHeartbeats 4000000 in
theorem DrawIsConvergent_any (a : Option Addr) (n cap : Nat) (w : World) (hn : n ≤ 9223372036854775807) (hb : Byt w w.heap.size a n) :
    Calls Try.prog 15 #[.slice a n cap] w fun e w' => ∃ p q r t : Int, e = .returned (.tuple #[.int .i64 p, .int .i64 q, .int .i64 r, .int .i64 t]) ∧ Below w.heap.size w w' := by
  have CF : Hid (∀ W, Below w.heap.size w W → Calls Try.prog 26 #[.slice a n cap] W fun e w' => ∃ s, e = .returned (.pointer (some ⟨s, 0, none⟩)) ∧ Sr w' s a n cap ∧ (w.heap.size ≤ s ∧ W.heap.size ≤ s) ∧ Below W.heap.size W w') := fun W hW => (l01From_any a n cap W hn (hb.over hW)).mono (by rintro e w' ⟨rfl, h1, h2⟩; exact ⟨_, rfl, h2, ⟨hW.size, Nat.le_refl _⟩, h1⟩)
  clear hb
  have HB : Hid (Below w.heap.size w w) := Below.refl _ _
  go_enter Try.func15, Try.ntmps15

  go_wp2_with fail
  go_at_call 26
  refine (CF.out _ HB.out).mono ?_
  rintro e w1 ⟨sG, rfl, hs, hsl, hb⟩
  have HB := Lib.hid (below_after hb HB.out)
  clear hb
  have HSR := Lib.hid hs
  have le_s : w.heap.size ≤ sG := by have := hsl; omega
  clear hs
  go_wp2_with fail
  go_at_call 27
  refine (l10Draw_any _ a n cap _ HSR.out).mono ?_
  rintro e w2 ⟨p, q, -, rfl, hg, hs⟩
  have HB := Lib.hid (Below.grown HB.out hg HB.out.size (fun k hk => by injection hk with hk; omega))
  have HSR := Lib.hid hs
  clear hg hs
  obtain ⟨ps, c, hC, hps⟩ := conv_some p q
  have HC := Lib.hid hC
  have HPS := Lib.hid hps
  clear hC hps
  have hltS := HSR.out.lt
  obtain ⟨N, hN⟩ : ∃ N, ps.length = N := ⟨_, rfl⟩
  rw [hN] at HPS
  unfold RetPC at HC
  rw [hN] at HC
  clear hN
  obtain ⟨zs, hzs⟩ : ∃ z, flat ps = z := ⟨_, rfl⟩
  rw [hzs] at HC
  clear hzs
  go_wp2_with fail
  go_at_call 28
  refine (HC.out _).mono ?_
  rintro e w3 ⟨v, rfl, ho, hb⟩
  have HSR := Lib.hid (HSR.out.below hb)
  have HB := Lib.hid (below_after hb HB.out)
  clear hb
  have ho := ho.monoB (B' := sG + 1) (by omega)
  obtain ⟨va, vc, rfl, -⟩ := own_viewF ho
  have HV := Lib.hid ho
  clear ho hltS HC
  by_cases hc : c = 0
  · skip
    subst hc
    obtain ⟨hN1, hN2⟩ := HPS.out rfl
    clear HPS
    go_wp2_with fail
    go_at_call 29
    refine (l01Next_any _ a n cap 3 _ HSR.out).mono ?_
    rintro e w4 ⟨z, rfl, -, -, hg, hs⟩
    have HV := Lib.hid (HV.out.grows hg (Nat.lt_succ_self _))
    have HB := Lib.hid (Below.grown HB.out hg HB.out.size (fun k hk => by injection hk with hk; omega))
    have HSR := Lib.hid hs
    clear hg hs
    by_cases hz : (0 : Int) < z
    · skip
      have hzd2 : decide ((0 : Int) < z) = true := by simpa using hz
      go_wp2_with fail
      go_at_call 29
      refine (l01Next_any _ a n cap _ _ HSR.out).mono ?_
      rintro e w5 ⟨i, rfl, -, hi, hg, hs⟩
      have HV := Lib.hid (HV.out.grows hg (Nat.lt_succ_self _))
      have HB := Lib.hid (Below.grown HB.out hg HB.out.size (fun k hk => by injection hk with hk; omega))
      have HSR := Lib.hid hs
      clear hg hs
      obtain ⟨hi1, hi2⟩ := hi (by omega)
      clear hi
      obtain ⟨j, rfl⟩ : ∃ j : Nat, i = j := ⟨i.toNat, by omega⟩
      obtain ⟨va2, vc2, he2, hf2⟩ := own_viewF HV.out
      simp only [Value.slice.injEq] at he2
      obtain ⟨rfl, -, rfl⟩ := he2
      obtain ⟨g, rfl, hg1, hg2, hc, -⟩ := hf2 (by omega)
      have c0 := hc (j * 2) (by omega)
      have c1 := hc (j * 2 + 1) (by omega)
      obtain ⟨X, hX⟩ : ∃ X, zs.getD (j * 2) 0 = X := ⟨_, rfl⟩
      obtain ⟨Y, hY⟩ : ∃ X, zs.getD (j * 2 + 1) 0 = X := ⟨_, rfl⟩
      rw [hX] at c0
      rw [hY] at c1
      have hjN : (j : Int) < (N : Int) := by omega
      have hj0 : (0 : Int) ≤ (j : Int) := by omega
      clear hf2 hc hX hY HV
      clear HSR
      go_upto_region 6 with fail
      obtain ⟨GA, hGA⟩ : ∃ g, w5.heap.size = g := ⟨_, rfl⟩
      obtain ⟨w6, hw6⟩ : ∃ wx, wx = w5.alloc (.cells #[.int .i64 X, .int .i64 Y] 31) := ⟨_, rfl⟩
      rw [← hw6, hGA]
      have HA : Hid (Bk2 w6 GA X Y) := by rw [hw6, ← hGA]; exact bk2_new w5 X Y _
      have le_A : w.heap.size ≤ GA := by rw [← hGA]; exact HB.out.size
      have HB := Lib.hid (Below.alloc HB.out HB.out.size (.cells #[.int .i64 X, .int .i64 Y] 31))
      rw [← hw6] at HB
      clear hw6 hGA
      have HXX : Hid (∀ W, Below w6.heap.size w6 W → Bk2 W GA X Y) := fun W hW => HA.out.below hW
      go_wp2_with fail
      refine wp_region_held_drew (S := fun W => Below w6.heap.size w6 W) (by kernel_rfl) ?_ (fun hHeld => ?_); focus ((try dsimp only); exact (Below.refl _ _).drew)
      have HA := Lib.hid (HA.out.below (Below.drew (Below.refl _ _)))
      have hHeld : Below w6.heap.size w6 _ := hHeld
      obtain ⟨wD6, hwD6⟩ : ∃ wD, w6.drew = wD := ⟨_, rfl⟩
      rw [hwD6] at hHeld HA ⊢
      clear hwD6
      (refine wpAnyH_take (i := 0) (v := ?_) rfl (by kernel_rfl) (by kernel_rfl) (by kernel_rfl) (fun _ _ _ h => h) (Or.inl ⟨rfl, ?_⟩) (by assumption) ?_; rotate_left; focus (intro W hSw; (try dsimp only at hSw); have hxx := HXX.out _ hSw; have hxA := hxx; obtain ⟨⟨iA0, iA1⟩, _, _⟩ := hxA; go_simp; try (with_reducible rfl))); (try simp only [Act.put, List.getElem_toArray, List.getElem_cons_succ, List.getElem_cons_zero, List.setIfInBounds_toArray, List.set_cons_zero, List.set_cons_succ])
      (refine wpAnyH_take (i := 1) (v := ?_) rfl (by kernel_rfl) (by kernel_rfl) (by kernel_rfl) (fun _ _ _ h => h) (Or.inl ⟨rfl, ?_⟩) (by assumption) ?_; rotate_left; focus (intro W hSw; (try dsimp only at hSw); have hxx := HXX.out _ hSw; have hxA := hxx; obtain ⟨⟨iA0, iA1⟩, _, _⟩ := hxA; go_simp; try (with_reducible rfl))); (try simp only [Act.put, List.getElem_toArray, List.getElem_cons_succ, List.getElem_cons_zero, List.setIfInBounds_toArray, List.set_cons_zero, List.set_cons_succ])
      (refine wpAnyH_take (i := 2) (v := ?_) rfl (by kernel_rfl) (by kernel_rfl) (by kernel_rfl) (fun _ _ _ h => h) (Or.inl ⟨rfl, ?_⟩) (by assumption) ?_; rotate_left; focus (intro W hSw; (try dsimp only at hSw); have hxx := HXX.out _ hSw; have hxA := hxx; obtain ⟨⟨iA0, iA1⟩, _, _⟩ := hxA; go_simp; try (with_reducible rfl))); (try simp only [Act.put, List.getElem_toArray, List.getElem_cons_succ, List.getElem_cons_zero, List.setIfInBounds_toArray, List.set_cons_zero, List.set_cons_succ])
      (refine wpAnyH_take (i := 3) (v := ?_) rfl (by kernel_rfl) (by kernel_rfl) (by kernel_rfl) (fun _ _ _ h => h) (Or.inl ⟨rfl, ?_⟩) (by assumption) ?_; rotate_left; focus (intro W hSw; (try dsimp only at hSw); have hxx := HXX.out _ hSw; have hxA := hxx; obtain ⟨⟨iA0, iA1⟩, _, _⟩ := hxA; go_simp; try (with_reducible rfl))); (try simp only [Act.put, List.getElem_toArray, List.getElem_cons_succ, List.getElem_cons_zero, List.setIfInBounds_toArray, List.set_cons_zero, List.set_cons_succ])
      (refine wpAnyH_take (i := 4) (v := ?_) rfl (by kernel_rfl) (by kernel_rfl) (by kernel_rfl) (fun _ _ _ h => h) (Or.inl ⟨rfl, ?_⟩) (by assumption) ?_; rotate_left; focus (intro W hSw; (try dsimp only at hSw); have hxx := HXX.out _ hSw; have hxA := hxx; obtain ⟨⟨iA0, iA1⟩, _, _⟩ := hxA; go_simp; try (with_reducible rfl))); (try simp only [Act.put, List.getElem_toArray, List.getElem_cons_succ, List.getElem_cons_zero, List.setIfInBounds_toArray, List.set_cons_zero, List.set_cons_succ])
      (refine wpAnyH_take (i := 5) (v := ?_) rfl (by kernel_rfl) (by kernel_rfl) (by kernel_rfl) (fun _ _ _ h => h) (Or.inl ⟨rfl, ?_⟩) (by assumption) ?_; rotate_left; focus (intro W hSw; (try dsimp only at hSw); have hxx := HXX.out _ hSw; have hxA := hxx; obtain ⟨⟨iA0, iA1⟩, _, _⟩ := hxA; go_simp; try (with_reducible rfl))); (try simp only [Act.put, List.getElem_toArray, List.getElem_cons_succ, List.getElem_cons_zero, List.setIfInBounds_toArray, List.set_cons_zero, List.set_cons_succ])
      (refine wpAnyH_take (i := 6) (v := ?_) rfl (by kernel_rfl) (by kernel_rfl) (by kernel_rfl) (fun _ _ _ h => h) (Or.inl ⟨rfl, ?_⟩) (by assumption) ?_; rotate_left; focus (intro W hSw; (try dsimp only at hSw); have hxx := HXX.out _ hSw; have hxA := hxx; obtain ⟨⟨iA0, iA1⟩, _, _⟩ := hxA; go_simp; try (with_reducible rfl))); (try simp only [Act.put, List.getElem_toArray, List.getElem_cons_succ, List.getElem_cons_zero, List.setIfInBounds_toArray, List.set_cons_zero, List.set_cons_succ])
      (refine wpAnyH_take (i := 7) (v := ?_) rfl (by kernel_rfl) (by kernel_rfl) (by kernel_rfl) (fun _ _ _ h => h) (Or.inl ⟨rfl, ?_⟩) (by assumption) ?_; rotate_left; focus (intro W hSw; (try dsimp only at hSw); have hxx := HXX.out _ hSw; have hxA := hxx; obtain ⟨⟨iA0, iA1⟩, _, _⟩ := hxA; go_simp; try (with_reducible rfl))); (try simp only [Act.put, List.getElem_toArray, List.getElem_cons_succ, List.getElem_cons_zero, List.setIfInBounds_toArray, List.set_cons_zero, List.set_cons_succ])
      (refine wpAnyH_take (i := 8) (v := ?_) rfl (by kernel_rfl) (by kernel_rfl) (by kernel_rfl) (fun _ _ _ h => h) (Or.inl ⟨rfl, ?_⟩) (by assumption) ?_; rotate_left; focus (intro W hSw; (try dsimp only at hSw); have hxx := HXX.out _ hSw; have hxA := hxx; obtain ⟨⟨iA0, iA1⟩, _, _⟩ := hxA; go_simp; try (with_reducible rfl))); (try simp only [Act.put, List.getElem_toArray, List.getElem_cons_succ, List.getElem_cons_zero, List.setIfInBounds_toArray, List.set_cons_zero, List.set_cons_succ])
      (refine wpAnyH_take (i := 9) (v := ?_) rfl (by kernel_rfl) (by kernel_rfl) (by kernel_rfl) (fun _ _ _ h => h) (Or.inl ⟨rfl, ?_⟩) (by assumption) ?_; rotate_left; focus (intro W hSw; (try dsimp only at hSw); have hxx := HXX.out _ hSw; have hxA := hxx; obtain ⟨⟨iA0, iA1⟩, _, _⟩ := hxA; go_simp; try (with_reducible rfl))); (try simp only [Act.put, List.getElem_toArray, List.getElem_cons_succ, List.getElem_cons_zero, List.setIfInBounds_toArray, List.set_cons_zero, List.set_cons_succ])
      refine wpAnyH_done (by kernel_rfl) ?_ _
      have HB := Lib.hid (HB.out.trans (hHeld.mono HB.out.size))
      clear hHeld HXX
      obtain ⟨⟨qA0, qA1⟩, ⟨fA0, fA1⟩, zA⟩ := HA.out
      go_wp2_with fail
      refine bodyPost_ret (v := .tuple #[.int .i64 p, .int .i64 q, .int .i64 X, .int .i64 Y]) (by simp (maxDischargeDepth := 8) [results, Try.results15, go_sem, *]) rfl ?_
      exact ⟨_, _, _, _, rfl, HB.out⟩
    · skip
      have hzd : ¬ (0 : Int) < z := by omega
      have hzd2 : decide ((0 : Int) < z) = false := by simpa using hzd
      clear HV
      go_wp2_with fail
      go_at_call 27
      refine (l10Draw_any _ a n cap _ HSR.out).mono ?_
      rintro e w5 ⟨p2, q2, -, rfl, hg, hs⟩
      have HB := Lib.hid (Below.grown HB.out hg HB.out.size (fun k hk => by injection hk with hk; omega))
      have HSR := Lib.hid hs
      clear hg hs
      clear HSR
      go_wp2_with fail
      refine bodyPost_ret (v := .tuple #[.int .i64 p, .int .i64 q, .int .i64 p2, .int .i64 q2]) (by simp (maxDischargeDepth := 8) [results, Try.results15, go_sem, *]) rfl ?_
      exact ⟨_, _, _, _, rfl, HB.out⟩
  · skip
    have n0 : (c == 0) = false := by simp [hc]
    clear HV HPS
    go_wp2_with fail
    go_at_call 27
    refine (l10Draw_any _ a n cap _ HSR.out).mono ?_
    rintro e w4 ⟨p2, q2, -, rfl, hg, hs⟩
    have HB := Lib.hid (Below.grown HB.out hg HB.out.size (fun k hk => by injection hk with hk; omega))
    have HSR := Lib.hid hs
    clear hg hs
    clear HSR
    go_wp2_with fail
    refine bodyPost_ret (v := .tuple #[.int .i64 p, .int .i64 q, .int .i64 p2, .int .i64 q2]) (by simp (maxDischargeDepth := 8) [results, Try.results15, go_sem, *]) rfl ?_
    exact ⟨_, _, _, _, rfl, HB.out⟩
end Go.Proofs.Ytibmkmcdggokbaa
