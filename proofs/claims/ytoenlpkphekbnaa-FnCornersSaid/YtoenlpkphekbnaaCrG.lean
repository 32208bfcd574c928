/-
  The draws of corners (own work).
-/
import Derived.Test.YtoenlpkphekbnaaFpB
import Derived.Test.YtoenlpkphekbnaaCrF
import Derived.Test.YtoenlpkphekbnaaBk4
import Derived.Test.YtoenlpkphekbnaaMove2
import Derived.BigRegion
import Derived.Deep.Cut
namespace Go.Proofs.Ytoenlpkphekbnaa
open Go.ChangeShapes Go.WideShapes Go.ChangeAt Go.RowKit
set_option linter.unusedVariables false
set_option maxRecDepth 100000
set_option linter.unusedSimpArgs false
set_option maxRecDepth 100000

theorem Bk4.grows {w w' : World} {g : Nat} {r : Option Nat} {a b c d : Int} (h : Bk4 w g a b c d) (hg : w.grownBy w' r) (hne : r ≠ some g) : Bk4 w' g a b c d := h.same (hg.block g h.2.2 (fun e => hne e.symm))
set_option maxHeartbeats 4000000 in
theorem DrawCosineOf_any (a : Option Addr) (n cap : Nat) (w : World) (hn : n ≤ 9223372036854775807) (hb : Byt w w.heap.size a n) :
    Calls Try.prog 42 #[.slice a n cap] w fun e w' => ∃ x0 y0 x1 y1 : Int, e = .returned (.agg #[.int .i64 x0, .int .i64 y0, .int .i64 x1, .int .i64 y1]) ∧ Below w.heap.size w w' := by
  have CF : Hid (∀ W, Below w.heap.size w W → Calls Try.prog 72 #[.slice a n cap] W fun e w' => ∃ s, e = .returned (.pointer (some ⟨s, 0, none⟩)) ∧ Sr w' s a n cap ∧ (w.heap.size ≤ s ∧ W.heap.size ≤ s) ∧ Below W.heap.size W w') := fun W hW => (l01From_any a n cap W hn (hb.over hW)).mono (by rintro e w' ⟨rfl, h1, h2⟩; exact ⟨_, rfl, h2, ⟨hW.size, Nat.le_refl _⟩, h1⟩)
  clear hb
  obtain ⟨GR, hG⟩ : ∃ G, w.heap.size = G := ⟨_, rfl⟩
  have HG := Lib.hid hG
  go_enter Try.func42, Try.ntmps42
  go_upto_region 1 with fail
  obtain ⟨w0, hw0⟩ : ∃ w0, w0 = (w.alloc (.cells #[.int .i64 0, .int .i64 0, .int .i64 0, .int .i64 0] 52)) := ⟨_, rfl⟩
  rw [← hw0]
  have HR : Hid (Bk4 w0 GR 0 0 0 0) := by
    have h := (bk4_new w 0 0 0 0 52).below (W' := (w.alloc (.cells #[.int .i64 0, .int .i64 0, .int .i64 0, .int .i64 0] 52))) (by (repeat' (first | (with_reducible exact Below.refl _ _) | (with_reducible refine Below.alloc ?_ ?_ _) | (with_reducible refine Below.setCell ?_ ?_ _) | (with_reducible refine Below.drew ?_) | (with_reducible refine below_drewN ?_ _) | (with_reducible assumption) | (with_reducible refine below_after (by with_reducible assumption) ?_) | go_size)))
    (try simp only [World.size_alloc] at h)
    rw [hG] at h
    rw [hw0]; exact h
  have HB : Hid (Below w.heap.size w w0) := by show Below w.heap.size w w0; rw [hw0]; (repeat' (first | (with_reducible exact Below.refl _ _) | (with_reducible refine Below.alloc ?_ ?_ _) | (with_reducible refine Below.setCell ?_ ?_ _) | (with_reducible refine Below.drew ?_) | (with_reducible refine below_drewN ?_ _) | (with_reducible assumption) | (with_reducible refine below_after (by with_reducible assumption) ?_) | go_size))
  clear hw0
  have le_R : w.heap.size ≤ GR := by omega
  have zR0 := HR.out.2.2
  obtain ⟨⟨qR0, qR1, qR2, qR3⟩, ⟨fR0, fR1, fR2, fR3⟩, zR⟩ := HR.out
  go_wp2_with fail
  go_at_call 72
  refine (CF.out _ HB.out).mono ?_
  rintro e w1 ⟨sG, rfl, hs, hsl, hb⟩
  clear qR0 fR0 qR1 fR1 qR2 fR2 qR3 fR3 zR
  have HR := Lib.hid (HR.out.below hb)
  have HB := Lib.hid (below_after hb HB.out)
  clear hb
  have HSR := Lib.hid hs
  have le_s : w.heap.size ≤ sG := by have := hsl; omega
  have ne_R_s : GR ≠ sG := by omega
  clear hs
  obtain ⟨⟨qR0, qR1, qR2, qR3⟩, ⟨fR0, fR1, fR2, fR3⟩, zR⟩ := HR.out
  go_wp2_with fail
  go_at_call 110
  refine (l02Spoil_any _ a n cap _ HSR.out).mono ?_
  rintro e w2 ⟨x0, y0, x1, y1, rfl, hg, hs⟩
  clear qR0 fR0 qR1 fR1 qR2 fR2 qR3 fR3 zR
  have HR := Lib.hid (HR.out.grows hg (by intro hh; injection hh with hh; exact ne_R_s hh.symm))
  have HB := Lib.hid (Below.grown HB.out hg HB.out.size (fun k hk => by injection hk with hk; omega))
  have HSR := Lib.hid hs
  clear hg hs
  clear HSR
  have KB := (Below.setCell (Below.setCell (Below.setCell (Below.setCell HB.out (p := ⟨GR, 0, none⟩) le_R (.int .i64 x0)) (p := ⟨GR, 1, none⟩) le_R (.int .i64 y0)) (p := ⟨GR, 2, none⟩) le_R (.int .i64 x1)) (p := ⟨GR, 3, none⟩) le_R (.int .i64 y1))
  obtain ⟨⟨qR0, qR1, qR2, qR3⟩, ⟨fR0, fR1, fR2, fR3⟩, zR⟩ := HR.out
  go_wp2_with fail
  refine bodyPost_ret (v := .agg #[.int .i64 x0, .int .i64 y0, .int .i64 x1, .int .i64 y1]) (by simp (maxDischargeDepth := 8) [results, Try.results42, go_sem, *]) rfl ?_
  exact ⟨x0, y0, x1, y1, rfl, KB⟩
set_option maxHeartbeats 4000000 in
theorem DrawAreEqualCorners_any (a : Option Addr) (n cap : Nat) (w : World) (hn : n ≤ 9223372036854775807) (hb : Byt w w.heap.size a n) :
    Calls Try.prog 53 #[.slice a n cap] w fun e w' => ∃ x0 y0 x1 y1 u0 v0 u1 v1 : Int, e = .returned (.tuple #[.agg #[.int .i64 x0, .int .i64 y0, .int .i64 x1, .int .i64 y1], .agg #[.int .i64 u0, .int .i64 v0, .int .i64 u1, .int .i64 v1]]) ∧ Below w.heap.size w w' := by
  have CF : Hid (∀ W, Below w.heap.size w W → Calls Try.prog 72 #[.slice a n cap] W fun e w' => ∃ s, e = .returned (.pointer (some ⟨s, 0, none⟩)) ∧ Sr w' s a n cap ∧ (w.heap.size ≤ s ∧ W.heap.size ≤ s) ∧ Below W.heap.size W w') := fun W hW => (l01From_any a n cap W hn (hb.over hW)).mono (by rintro e w' ⟨rfl, h1, h2⟩; exact ⟨_, rfl, h2, ⟨hW.size, Nat.le_refl _⟩, h1⟩)
  clear hb
  obtain ⟨GR, hG⟩ : ∃ G, w.heap.size = G := ⟨_, rfl⟩
  have HG := Lib.hid hG
  go_enter Try.func53, Try.ntmps53
  go_upto_region 1 with fail
  obtain ⟨w0, hw0⟩ : ∃ w0, w0 = ((w.alloc (.cells #[.int .i64 0, .int .i64 0, .int .i64 0, .int .i64 0] 52)).alloc (.cells #[.int .i64 0, .int .i64 0, .int .i64 0, .int .i64 0] 52)) := ⟨_, rfl⟩
  rw [← hw0]
  have HR : Hid (Bk4 w0 GR 0 0 0 0) := by
    have h := (bk4_new w 0 0 0 0 52).below (W' := ((w.alloc (.cells #[.int .i64 0, .int .i64 0, .int .i64 0, .int .i64 0] 52)).alloc (.cells #[.int .i64 0, .int .i64 0, .int .i64 0, .int .i64 0] 52))) (by (repeat' (first | (with_reducible exact Below.refl _ _) | (with_reducible refine Below.alloc ?_ ?_ _) | (with_reducible refine Below.setCell ?_ ?_ _) | (with_reducible refine Below.drew ?_) | (with_reducible refine below_drewN ?_ _) | (with_reducible assumption) | (with_reducible refine below_after (by with_reducible assumption) ?_) | go_size)))
    (try simp only [World.size_alloc] at h)
    rw [hG] at h
    rw [hw0]; exact h
  have HQ : Hid (Bk4 w0 (GR + 1) 0 0 0 0) := by
    have h := (bk4_new (w.alloc (.cells #[.int .i64 0, .int .i64 0, .int .i64 0, .int .i64 0] 52)) 0 0 0 0 52).below (W' := ((w.alloc (.cells #[.int .i64 0, .int .i64 0, .int .i64 0, .int .i64 0] 52)).alloc (.cells #[.int .i64 0, .int .i64 0, .int .i64 0, .int .i64 0] 52))) (by (repeat' (first | (with_reducible exact Below.refl _ _) | (with_reducible refine Below.alloc ?_ ?_ _) | (with_reducible refine Below.setCell ?_ ?_ _) | (with_reducible refine Below.drew ?_) | (with_reducible refine below_drewN ?_ _) | (with_reducible assumption) | (with_reducible refine below_after (by with_reducible assumption) ?_) | go_size)))
    (try simp only [World.size_alloc] at h)
    rw [hG] at h
    rw [hw0]; exact h
  have HB : Hid (Below w.heap.size w w0) := by show Below w.heap.size w w0; rw [hw0]; (repeat' (first | (with_reducible exact Below.refl _ _) | (with_reducible refine Below.alloc ?_ ?_ _) | (with_reducible refine Below.setCell ?_ ?_ _) | (with_reducible refine Below.drew ?_) | (with_reducible refine below_drewN ?_ _) | (with_reducible assumption) | (with_reducible refine below_after (by with_reducible assumption) ?_) | go_size))
  clear hw0
  obtain ⟨GQ, hGQ⟩ : ∃ g, GR + 1 = g := ⟨_, rfl⟩
  rw [hGQ] at HQ ⊢
  have le_R : w.heap.size ≤ GR := by omega
  have le_Q : w.heap.size ≤ GQ := by omega
  have ne_Q_R : GQ ≠ GR := by omega
  have ne_R_Q : GR ≠ GQ := by omega
  clear hGQ
  have zR0 := HR.out.2.2
  have zQ0 := HQ.out.2.2
  obtain ⟨⟨qR0, qR1, qR2, qR3⟩, ⟨fR0, fR1, fR2, fR3⟩, zR⟩ := HR.out
  obtain ⟨⟨qQ0, qQ1, qQ2, qQ3⟩, ⟨fQ0, fQ1, fQ2, fQ3⟩, zQ⟩ := HQ.out
  go_wp2_with fail
  go_at_call 72
  refine (CF.out _ HB.out).mono ?_
  rintro e w1 ⟨sG, rfl, hs, hsl, hb⟩
  clear qR0 fR0 qR1 fR1 qR2 fR2 qR3 fR3 zR qQ0 fQ0 qQ1 fQ1 qQ2 fQ2 qQ3 fQ3 zQ
  have HR := Lib.hid (HR.out.below hb)
  have HQ := Lib.hid (HQ.out.below hb)
  have HB := Lib.hid (below_after hb HB.out)
  clear hb
  have HSR := Lib.hid hs
  have le_s : w.heap.size ≤ sG := by have := hsl; omega
  have ne_R_s : GR ≠ sG := by omega
  have ne_Q_s : GQ ≠ sG := by omega
  clear hs
  obtain ⟨⟨qR0, qR1, qR2, qR3⟩, ⟨fR0, fR1, fR2, fR3⟩, zR⟩ := HR.out
  obtain ⟨⟨qQ0, qQ1, qQ2, qQ3⟩, ⟨fQ0, fQ1, fQ2, fQ3⟩, zQ⟩ := HQ.out
  go_wp2_with fail
  go_at_call 110
  refine (l02Spoil_any _ a n cap _ HSR.out).mono ?_
  rintro e w2 ⟨x0, y0, x1, y1, rfl, hg, hs⟩
  clear qR0 fR0 qR1 fR1 qR2 fR2 qR3 fR3 zR qQ0 fQ0 qQ1 fQ1 qQ2 fQ2 qQ3 fQ3 zQ
  have HR := Lib.hid (HR.out.grows hg (by intro hh; injection hh with hh; exact ne_R_s hh.symm))
  have HQ := Lib.hid (HQ.out.grows hg (by intro hh; injection hh with hh; exact ne_Q_s hh.symm))
  have HB := Lib.hid (Below.grown HB.out hg HB.out.size (fun k hk => by injection hk with hk; omega))
  have HSR := Lib.hid hs
  clear hg hs
  obtain ⟨⟨qR0, qR1, qR2, qR3⟩, ⟨fR0, fR1, fR2, fR3⟩, zR⟩ := HR.out
  obtain ⟨⟨qQ0, qQ1, qQ2, qQ3⟩, ⟨fQ0, fQ1, fQ2, fQ3⟩, zQ⟩ := HQ.out
  go_upto_region 3 with fail
  obtain ⟨GA, hGA⟩ : ∃ g, w2.heap.size = g := ⟨_, rfl⟩
  obtain ⟨w3, hw3⟩ : ∃ wx, wx = w2.alloc (.cells #[.int .i64 x0, .int .i64 y0, .int .i64 x1, .int .i64 y1] 52) := ⟨_, rfl⟩
  rw [← hw3, hGA]
  have HA : Hid (Bk4 w3 GA x0 y0 x1 y1) := by rw [hw3, ← hGA]; exact bk4_new w2 x0 y0 x1 y1 _
  have le_A : w.heap.size ≤ GA := by rw [← hGA]; exact HB.out.size
  have ne_A_R : GA ≠ GR := by have := HR.out.2.2; omega
  have ne_R_A : GR ≠ GA := Ne.symm ne_A_R
  have ne_A_Q : GA ≠ GQ := by have := HQ.out.2.2; omega
  have ne_Q_A : GQ ≠ GA := Ne.symm ne_A_Q
  have lt_s_A : sG < GA := by have := HSR.out.lt; omega
  have ne_A_s : GA ≠ sG := by omega
  clear qR0 fR0 qR1 fR1 qR2 fR2 qR3 fR3 zR qQ0 fQ0 qQ1 fQ1 qQ2 fQ2 qQ3 fQ3 zQ
  have HR := Lib.hid (HR.out.below ((Below.refl _ _).alloc (Nat.le_refl _) (.cells #[.int .i64 x0, .int .i64 y0, .int .i64 x1, .int .i64 y1] 52)))
  have HQ := Lib.hid (HQ.out.below ((Below.refl _ _).alloc (Nat.le_refl _) (.cells #[.int .i64 x0, .int .i64 y0, .int .i64 x1, .int .i64 y1] 52)))
  have HSR := Lib.hid (HSR.out.below ((Below.refl _ _).alloc (Nat.le_refl _) (.cells #[.int .i64 x0, .int .i64 y0, .int .i64 x1, .int .i64 y1] 52)))
  have HB := Lib.hid (Below.alloc HB.out HB.out.size (.cells #[.int .i64 x0, .int .i64 y0, .int .i64 x1, .int .i64 y1] 52))
  rw [← hw3] at HR HQ HSR HB
  clear hw3 hGA
  obtain ⟨⟨qR0, qR1, qR2, qR3⟩, ⟨fR0, fR1, fR2, fR3⟩, zR⟩ := HR.out
  obtain ⟨⟨qQ0, qQ1, qQ2, qQ3⟩, ⟨fQ0, fQ1, fQ2, fQ3⟩, zQ⟩ := HQ.out
  obtain ⟨⟨qA0, qA1, qA2, qA3⟩, ⟨fA0, fA1, fA2, fA3⟩, zA⟩ := HA.out
  go_wp2_with fail
  go_at_call 87
  refine (l01Next_any _ a n cap 2 _ HSR.out).mono ?_
  rintro e w4 ⟨v, rfl, -, -, hg, hs⟩
  clear qR0 fR0 qR1 fR1 qR2 fR2 qR3 fR3 zR qQ0 fQ0 qQ1 fQ1 qQ2 fQ2 qQ3 fQ3 zQ qA0 fA0 qA1 fA1 qA2 fA2 qA3 fA3 zA
  have HR := Lib.hid (HR.out.grows hg (by intro hh; injection hh with hh; exact ne_R_s hh.symm))
  have HQ := Lib.hid (HQ.out.grows hg (by intro hh; injection hh with hh; exact ne_Q_s hh.symm))
  have HA := Lib.hid (HA.out.grows hg (by intro hh; injection hh with hh; exact ne_A_s hh.symm))
  have HB := Lib.hid (Below.grown HB.out hg HB.out.size (fun k hk => by injection hk with hk; omega))
  have HSR := Lib.hid hs
  clear hg hs
  by_cases hv0 : v = 0
  · subst hv0
    have CM : Hid (∀ p q r t w, Calls Try.prog 39 #[.agg #[.int .i64 p, .int .i64 q, .int .i64 r, .int .i64 t], .agg #[.int .i64 x0, .int .i64 y0, .int .i64 x1, .int .i64 y1]] w fun e w' => ∃ b0 b1 b2 b3 c : Int, e = .returned (.tuple #[.agg #[.int .i64 b0, .int .i64 b1, .int .i64 b2, .int .i64 b3], .int .i64 c]) ∧ Below w.heap.size w w') := fun p q r t w => (spec_MoveCorner_any p q r t x0 y0 x1 y1 w).mono (by rintro e w' ⟨rfl, hb⟩; exact ⟨_, _, _, _, _, rfl, hb⟩)
    go_wp2_with fail
    refine wp_region_held_drew (S := fun W => Below w.heap.size w W ∧ Bk4 W GR 0 0 0 0 ∧ Bk4 W GQ 0 0 0 0 ∧ Bk4 W GA x0 y0 x1 y1) (by kernel_rfl) ?_ (fun hHeld => ?_); focus ((try dsimp only); exact ⟨Below.drew HB.out, HR.out.below (Below.drew (Below.refl _ _)), HQ.out.below (Below.drew (Below.refl _ _)), HA.out.below (Below.drew (Below.refl _ _))⟩)
    have HR := Lib.hid (HR.out.below (Below.drew (Below.refl _ _)))
    have HQ := Lib.hid (HQ.out.below (Below.drew (Below.refl _ _)))
    have HA := Lib.hid (HA.out.below (Below.drew (Below.refl _ _)))
    have HSR := Lib.hid (HSR.out.below (Below.drew (Below.refl _ _)))
    have hHeld : (fun W => Below w.heap.size w W ∧ Bk4 W GR 0 0 0 0 ∧ Bk4 W GQ 0 0 0 0 ∧ Bk4 W GA x0 y0 x1 y1) _ := hHeld
    obtain ⟨wD4, hwD4⟩ : ∃ wD, w4.drew = wD := ⟨_, rfl⟩
    rw [hwD4] at hHeld HR HQ HA HSR ⊢
    clear hwD4
    (refine wpAnyH_take (i := 0) (v := ?_) rfl (by kernel_rfl) (by kernel_rfl) (by kernel_rfl) (fun _ _ _ h => h) (Or.inl ⟨rfl, ?_⟩) (by assumption) ?_; rotate_left; focus (intro W hSw; (try dsimp only at hSw); obtain ⟨hSb, hxR, hxQ, hxA⟩ := hSw; obtain ⟨⟨iR0, iR1, iR2, iR3⟩, _, _⟩ := hxR; obtain ⟨⟨iQ0, iQ1, iQ2, iQ3⟩, _, _⟩ := hxQ; obtain ⟨⟨iA0, iA1, iA2, iA3⟩, _, _⟩ := hxA; go_simp; try (with_reducible rfl))); (try simp only [Act.put, List.getElem_toArray, List.getElem_cons_succ, List.getElem_cons_zero, List.setIfInBounds_toArray, List.set_cons_zero, List.set_cons_succ])
    (refine wpAnyH_take (i := 2) (v := ?_) rfl (by kernel_rfl) (by kernel_rfl) (by kernel_rfl) (fun _ _ _ h => h) (Or.inl ⟨rfl, ?_⟩) (by assumption) ?_; rotate_left; focus (intro W hSw; (try dsimp only at hSw); obtain ⟨hSb, hxR, hxQ, hxA⟩ := hSw; obtain ⟨⟨iR0, iR1, iR2, iR3⟩, _, _⟩ := hxR; obtain ⟨⟨iQ0, iQ1, iQ2, iQ3⟩, _, _⟩ := hxQ; obtain ⟨⟨iA0, iA1, iA2, iA3⟩, _, _⟩ := hxA; go_simp; try (with_reducible rfl))); (try simp only [Act.put, List.getElem_toArray, List.getElem_cons_succ, List.getElem_cons_zero, List.setIfInBounds_toArray, List.set_cons_zero, List.set_cons_succ])
    refine wpAnyH_ready (rs := [1, 7]) (by kernel_rfl) (by simp) ?_; refine AllReadyH.cons rfl (fun K hK => ?_) (AllReadyH.cons rfl (fun K hK => ?_) AllReadyH.nil)
    · skip
      go_simp; (go_at_call 109; refine (l01DrawUnit_any _ a n cap _ HSR.out).mono ?_; rintro en ywr4x0 ⟨p, q, r, t, rfl, hg, hs⟩)
      have HR := Lib.hid (HR.out.grows hg (by intro hh; injection hh with hh; exact ne_R_s hh.symm))
      have HQ := Lib.hid (HQ.out.grows hg (by intro hh; injection hh with hh; exact ne_Q_s hh.symm))
      have HA := Lib.hid (HA.out.grows hg (by intro hh; injection hh with hh; exact ne_A_s hh.symm))
      have hBn := Below.grown hHeld.1 hg (Below.size hHeld.1) (fun k hk => by injection hk with hk; omega)
      have HSR := Lib.hid hs
      clear hg hs
      refine hK.out _ _ ⟨hBn, HR.out, HQ.out, HA.out⟩ (fun hHeld2 => ?_); clear hBn; (clear hHeld; rename _ => hHeld; clear hK K; have hHeld : (fun W => Below w.heap.size w W ∧ Bk4 W GR 0 0 0 0 ∧ Bk4 W GQ 0 0 0 0 ∧ Bk4 W GA x0 y0 x1 y1) _ := hHeld); (try simp only [Act.put, List.getElem_toArray, List.getElem_cons_succ, List.getElem_cons_zero, List.setIfInBounds_toArray, List.set_cons_zero, List.set_cons_succ])
      refine wpAnyH_ready (rs := [3, 7]) (by kernel_rfl) (by simp) ?_; refine AllReadyH.cons rfl (fun K hK => ?_) (AllReadyH.cons rfl (fun K hK => ?_) AllReadyH.nil)
      · skip
        go_simp; (go_at_call 39; refine (CM.out _ _ _ _ _).mono ?_; rintro en ywr4x1 ⟨b0, b1, b2, b3, c, rfl, hb2⟩); have HR := Lib.hid (HR.out.below hb2); have HQ := Lib.hid (HQ.out.below hb2); have HA := Lib.hid (HA.out.below hb2); have HSR := Lib.hid (HSR.out.below hb2); refine hK.out _ _ ⟨below_after hb2 hHeld.1, HR.out, HQ.out, HA.out⟩ (fun hHeld2 => ?_); clear hb2; (clear hHeld; rename _ => hHeld; clear hK K; have hHeld : (fun W => Below w.heap.size w W ∧ Bk4 W GR 0 0 0 0 ∧ Bk4 W GQ 0 0 0 0 ∧ Bk4 W GA x0 y0 x1 y1) _ := hHeld); (try simp only [Act.put, List.getElem_toArray, List.getElem_cons_succ, List.getElem_cons_zero, List.setIfInBounds_toArray, List.set_cons_zero, List.set_cons_succ])
        (refine wpAnyH_take (i := 4) (v := ?_) rfl (by kernel_rfl) (by kernel_rfl) (by kernel_rfl) (fun _ _ _ h => h) (Or.inl ⟨rfl, ?_⟩) (by assumption) ?_; rotate_left; focus (intro W hSw; (try dsimp only at hSw); obtain ⟨hSb, hxR, hxQ, hxA⟩ := hSw; obtain ⟨⟨iR0, iR1, iR2, iR3⟩, _, _⟩ := hxR; obtain ⟨⟨iQ0, iQ1, iQ2, iQ3⟩, _, _⟩ := hxQ; obtain ⟨⟨iA0, iA1, iA2, iA3⟩, _, _⟩ := hxA; go_simp; try (with_reducible rfl))); (try simp only [Act.put, List.getElem_toArray, List.getElem_cons_succ, List.getElem_cons_zero, List.setIfInBounds_toArray, List.set_cons_zero, List.set_cons_succ])
        (refine wpAnyH_take (i := 5) (v := ?_) rfl (by kernel_rfl) (by kernel_rfl) (by kernel_rfl) (fun _ _ _ h => h) (Or.inl ⟨rfl, ?_⟩) (by assumption) ?_; rotate_left; focus (intro W hSw; (try dsimp only at hSw); obtain ⟨hSb, hxR, hxQ, hxA⟩ := hSw; obtain ⟨⟨iR0, iR1, iR2, iR3⟩, _, _⟩ := hxR; obtain ⟨⟨iQ0, iQ1, iQ2, iQ3⟩, _, _⟩ := hxQ; obtain ⟨⟨iA0, iA1, iA2, iA3⟩, _, _⟩ := hxA; go_simp; try (with_reducible rfl))); (try simp only [Act.put, List.getElem_toArray, List.getElem_cons_succ, List.getElem_cons_zero, List.setIfInBounds_toArray, List.set_cons_zero, List.set_cons_succ])
        (refine wpAnyH_take (i := 6) (v := ?_) rfl (by kernel_rfl) (by kernel_rfl) (by kernel_rfl) (fun _ _ _ h => h) (Or.inl ⟨rfl, ?_⟩) (by assumption) ?_; rotate_left; focus (intro W hSw; (try dsimp only at hSw); obtain ⟨hSb, hxR, hxQ, hxA⟩ := hSw; obtain ⟨⟨iR0, iR1, iR2, iR3⟩, _, _⟩ := hxR; obtain ⟨⟨iQ0, iQ1, iQ2, iQ3⟩, _, _⟩ := hxQ; obtain ⟨⟨iA0, iA1, iA2, iA3⟩, _, _⟩ := hxA; go_simp; try (with_reducible rfl))); (try simp only [Act.put, List.getElem_toArray, List.getElem_cons_succ, List.getElem_cons_zero, List.setIfInBounds_toArray, List.set_cons_zero, List.set_cons_succ])
        refine wpAnyH_ready (rs := [7]) (by kernel_rfl) (by simp) ?_; refine AllReadyH.cons rfl (fun K hK => ?_) AllReadyH.nil
        go_simp; obtain ⟨GY, hGY⟩ : ∃ G, ywr4x1.heap.size = G := ⟨_, rfl⟩; have le_Y : w.heap.size ≤ GY := by rw [← hGY]; exact Below.size hHeld.1
        have ne_Y_R : GY ≠ GR := by have := HR.out.2.2; omega
        have ne_R_Y : GR ≠ GY := Ne.symm ne_Y_R
        have ne_Y_Q : GY ≠ GQ := by have := HQ.out.2.2; omega
        have ne_Q_Y : GQ ≠ GY := Ne.symm ne_Y_Q
        have ne_Y_A : GY ≠ GA := by have := HA.out.2.2; omega
        have ne_A_Y : GA ≠ GY := Ne.symm ne_Y_A
        have lt_s_Y : sG < GY := by have := HSR.out.lt; omega
        have ne_Y_s : GY ≠ sG := by omega
        have HR := Lib.hid (HR.out.below ((Below.refl _ _).alloc (Nat.le_refl _) (.cells #[.int .i64 0, .int .i64 0, .int .i64 0, .int .i64 0] 52))); have HQ := Lib.hid (HQ.out.below ((Below.refl _ _).alloc (Nat.le_refl _) (.cells #[.int .i64 0, .int .i64 0, .int .i64 0, .int .i64 0] 52))); have HA := Lib.hid (HA.out.below ((Below.refl _ _).alloc (Nat.le_refl _) (.cells #[.int .i64 0, .int .i64 0, .int .i64 0, .int .i64 0] 52))); have HSR := Lib.hid (HSR.out.below ((Below.refl _ _).alloc (Nat.le_refl _) (.cells #[.int .i64 0, .int .i64 0, .int .i64 0, .int .i64 0] 52))); skip
        have HY : Hid (Bk4 (ywr4x1.alloc (.cells #[.int .i64 0, .int .i64 0, .int .i64 0, .int .i64 0] 52)) GY 0 0 0 0) := by rw [← hGY]; exact bk4_new ywr4x1 0 0 0 0 _
        refine hK.out _ _ ⟨Below.alloc hHeld.1 (Below.size hHeld.1) _, HR.out, HQ.out, HA.out⟩ (fun hHeld2 => ?_); (clear hHeld; rename _ => hHeld; clear hK K; have hHeld : (fun W => Below w.heap.size w W ∧ Bk4 W GR 0 0 0 0 ∧ Bk4 W GQ 0 0 0 0 ∧ Bk4 W GA x0 y0 x1 y1) _ := hHeld); (try simp only [Act.put, List.getElem_toArray, List.getElem_cons_succ, List.getElem_cons_zero, List.setIfInBounds_toArray, List.set_cons_zero, List.set_cons_succ])
        rw [hGY]; clear hGY; obtain ⟨ywr4x2, hwx⟩ : ∃ wx, ywr4x1.alloc (.cells #[.int .i64 0, .int .i64 0, .int .i64 0, .int .i64 0] 52) = wx := ⟨_, rfl⟩; rw [hwx] at HR HQ HA HSR HY hHeld ⊢; clear hwx
        refine wpAnyH_ready (rs := [8]) (by kernel_rfl) (by simp) ?_; refine AllReadyH.cons rfl (fun K hK => ?_) AllReadyH.nil
        obtain ⟨⟨a0, a1, a2, a3⟩, ⟨f0, f1, f2, f3⟩, az⟩ := HY.out; go_simp; clear a0 f0 a1 f1 a2 f2 a3 f3 az
        have HR := Lib.hid ((((HR.out.far ⟨GY, 0, none⟩ (.int .i64 b0) (by show GR ≠ GY; exact ne_R_Y)).far ⟨GY, 1, none⟩ (.int .i64 b1) (by show GR ≠ GY; exact ne_R_Y)).far ⟨GY, 2, none⟩ (.int .i64 b2) (by show GR ≠ GY; exact ne_R_Y)).far ⟨GY, 3, none⟩ (.int .i64 b3) (by show GR ≠ GY; exact ne_R_Y))
        have HQ := Lib.hid ((((HQ.out.far ⟨GY, 0, none⟩ (.int .i64 b0) (by show GQ ≠ GY; exact ne_Q_Y)).far ⟨GY, 1, none⟩ (.int .i64 b1) (by show GQ ≠ GY; exact ne_Q_Y)).far ⟨GY, 2, none⟩ (.int .i64 b2) (by show GQ ≠ GY; exact ne_Q_Y)).far ⟨GY, 3, none⟩ (.int .i64 b3) (by show GQ ≠ GY; exact ne_Q_Y))
        have HA := Lib.hid ((((HA.out.far ⟨GY, 0, none⟩ (.int .i64 b0) (by show GA ≠ GY; exact ne_A_Y)).far ⟨GY, 1, none⟩ (.int .i64 b1) (by show GA ≠ GY; exact ne_A_Y)).far ⟨GY, 2, none⟩ (.int .i64 b2) (by show GA ≠ GY; exact ne_A_Y)).far ⟨GY, 3, none⟩ (.int .i64 b3) (by show GA ≠ GY; exact ne_A_Y))
        have HSR := Lib.hid (sr_set (sr_set (sr_set (sr_set HSR.out _ 0 (.int .i64 b0) lt_s_Y) _ 1 (.int .i64 b1) lt_s_Y) _ 2 (.int .i64 b2) lt_s_Y) _ 3 (.int .i64 b3) lt_s_Y)
        have HY := Lib.hid ((((HY.out.set0 b0).set1 b1).set2 b2).set3 b3)
        refine hK.out _ _ ⟨(Below.setCell (Below.setCell (Below.setCell (Below.setCell hHeld.1 (p := ⟨GY, 0, none⟩) le_Y _) (p := ⟨GY, 1, none⟩) le_Y _) (p := ⟨GY, 2, none⟩) le_Y _) (p := ⟨GY, 3, none⟩) le_Y _), HR.out, HQ.out, HA.out⟩ (fun hHeld2 => ?_); (clear hHeld; rename _ => hHeld; clear hK K; have hHeld : (fun W => Below w.heap.size w W ∧ Bk4 W GR 0 0 0 0 ∧ Bk4 W GQ 0 0 0 0 ∧ Bk4 W GA x0 y0 x1 y1) _ := hHeld); (try simp only [Act.put, List.getElem_toArray, List.getElem_cons_succ, List.getElem_cons_zero, List.setIfInBounds_toArray, List.set_cons_zero, List.set_cons_succ])
        obtain ⟨ywr4x3, hwx⟩ : ∃ wx, (((ywr4x2.setCell ⟨GY, 0, none⟩ (.int .i64 b0)).setCell ⟨GY, 1, none⟩ (.int .i64 b1)).setCell ⟨GY, 2, none⟩ (.int .i64 b2)).setCell ⟨GY, 3, none⟩ (.int .i64 b3) = wx := ⟨_, rfl⟩; rw [hwx] at HR HQ HA HY HSR hHeld ⊢; clear hwx
        (refine wpAnyH_take (i := 9) (v := ?_) rfl (by kernel_rfl) (by kernel_rfl) (by kernel_rfl) (fun _ _ _ h => h) (Or.inl ⟨rfl, ?_⟩) (by assumption) ?_; rotate_left; focus (intro W hSw; (try dsimp only at hSw); obtain ⟨hSb, hxR, hxQ, hxA⟩ := hSw; obtain ⟨⟨iR0, iR1, iR2, iR3⟩, _, _⟩ := hxR; obtain ⟨⟨iQ0, iQ1, iQ2, iQ3⟩, _, _⟩ := hxQ; obtain ⟨⟨iA0, iA1, iA2, iA3⟩, _, _⟩ := hxA; go_simp; try (with_reducible rfl))); (try simp only [Act.put, List.getElem_toArray, List.getElem_cons_succ, List.getElem_cons_zero, List.setIfInBounds_toArray, List.set_cons_zero, List.set_cons_succ])
        refine wpAnyH_done (by kernel_rfl) ?_ _
        have HB := Lib.hid (hHeld.1)
        clear hHeld
        by_cases hc : c = 0
        · subst hc
          clear HSR
          go_wp2_with fail
          refine wp_region_held_drew (S := fun W => Below w.heap.size w W ∧ Bk4 W GA x0 y0 x1 y1 ∧ Bk4 W GY b0 b1 b2 b3) (by kernel_rfl) ?_ (fun hHeld => ?_); focus ((try dsimp only); exact ⟨Below.drew HB.out, HA.out.below (Below.drew (Below.refl _ _)), HY.out.below (Below.drew (Below.refl _ _))⟩)
          have HR := Lib.hid (HR.out.below (Below.drew (Below.refl _ _)))
          have HQ := Lib.hid (HQ.out.below (Below.drew (Below.refl _ _)))
          have HA := Lib.hid (HA.out.below (Below.drew (Below.refl _ _)))
          have HY := Lib.hid (HY.out.below (Below.drew (Below.refl _ _)))
          have hHeld : (fun W => Below w.heap.size w W ∧ Bk4 W GA x0 y0 x1 y1 ∧ Bk4 W GY b0 b1 b2 b3) _ := hHeld
          obtain ⟨wD54, hwD54⟩ : ∃ wD, ywr4x3.drew = wD := ⟨_, rfl⟩
          rw [hwD54] at hHeld HR HQ HA HY ⊢
          clear hwD54
          (refine wpAnyH_take (i := 0) (v := ?_) rfl (by kernel_rfl) (by kernel_rfl) (by kernel_rfl) (fun _ _ _ h => h) (Or.inl ⟨rfl, ?_⟩) (by assumption) ?_; rotate_left; focus (intro W hSw; (try dsimp only at hSw); obtain ⟨hSb, hxA, hxY⟩ := hSw; obtain ⟨⟨iA0, iA1, iA2, iA3⟩, _, _⟩ := hxA; obtain ⟨⟨iY0, iY1, iY2, iY3⟩, _, _⟩ := hxY; go_simp; try (with_reducible rfl))); (try simp only [Act.put, List.getElem_toArray, List.getElem_cons_succ, List.getElem_cons_zero, List.setIfInBounds_toArray, List.set_cons_zero, List.set_cons_succ])
          (refine wpAnyH_take (i := 1) (v := ?_) rfl (by kernel_rfl) (by kernel_rfl) (by kernel_rfl) (fun _ _ _ h => h) (Or.inl ⟨rfl, ?_⟩) (by assumption) ?_; rotate_left; focus (intro W hSw; (try dsimp only at hSw); obtain ⟨hSb, hxA, hxY⟩ := hSw; obtain ⟨⟨iA0, iA1, iA2, iA3⟩, _, _⟩ := hxA; obtain ⟨⟨iY0, iY1, iY2, iY3⟩, _, _⟩ := hxY; go_simp; try (with_reducible rfl))); (try simp only [Act.put, List.getElem_toArray, List.getElem_cons_succ, List.getElem_cons_zero, List.setIfInBounds_toArray, List.set_cons_zero, List.set_cons_succ])
          refine wpAnyH_ready (rs := [2]) (by kernel_rfl) (by simp) ?_; refine AllReadyH.cons rfl (fun K hK => ?_) AllReadyH.nil
          obtain ⟨⟨a0, a1, a2, a3⟩, ⟨f0, f1, f2, f3⟩, az⟩ := HR.out; go_simp; clear a0 f0 a1 f1 a2 f2 a3 f3 az
          have HQ := Lib.hid ((((HQ.out.far ⟨GR, 0, none⟩ (.int .i64 x0) (by show GQ ≠ GR; exact ne_Q_R)).far ⟨GR, 1, none⟩ (.int .i64 y0) (by show GQ ≠ GR; exact ne_Q_R)).far ⟨GR, 2, none⟩ (.int .i64 x1) (by show GQ ≠ GR; exact ne_Q_R)).far ⟨GR, 3, none⟩ (.int .i64 y1) (by show GQ ≠ GR; exact ne_Q_R))
          have HA := Lib.hid ((((HA.out.far ⟨GR, 0, none⟩ (.int .i64 x0) (by show GA ≠ GR; exact ne_A_R)).far ⟨GR, 1, none⟩ (.int .i64 y0) (by show GA ≠ GR; exact ne_A_R)).far ⟨GR, 2, none⟩ (.int .i64 x1) (by show GA ≠ GR; exact ne_A_R)).far ⟨GR, 3, none⟩ (.int .i64 y1) (by show GA ≠ GR; exact ne_A_R))
          have HY := Lib.hid ((((HY.out.far ⟨GR, 0, none⟩ (.int .i64 x0) (by show GY ≠ GR; exact ne_Y_R)).far ⟨GR, 1, none⟩ (.int .i64 y0) (by show GY ≠ GR; exact ne_Y_R)).far ⟨GR, 2, none⟩ (.int .i64 x1) (by show GY ≠ GR; exact ne_Y_R)).far ⟨GR, 3, none⟩ (.int .i64 y1) (by show GY ≠ GR; exact ne_Y_R))
          have HR := Lib.hid ((((HR.out.set0 x0).set1 y0).set2 x1).set3 y1)
          refine hK.out _ _ ⟨(Below.setCell (Below.setCell (Below.setCell (Below.setCell hHeld.1 (p := ⟨GR, 0, none⟩) le_R _) (p := ⟨GR, 1, none⟩) le_R _) (p := ⟨GR, 2, none⟩) le_R _) (p := ⟨GR, 3, none⟩) le_R _), HA.out, HY.out⟩ (fun hHeld2 => ?_); (clear hHeld; rename _ => hHeld; clear hK K; have hHeld : (fun W => Below w.heap.size w W ∧ Bk4 W GA x0 y0 x1 y1 ∧ Bk4 W GY b0 b1 b2 b3) _ := hHeld); (try simp only [Act.put, List.getElem_toArray, List.getElem_cons_succ, List.getElem_cons_zero, List.setIfInBounds_toArray, List.set_cons_zero, List.set_cons_succ])
          obtain ⟨ywr54x0, hwx⟩ : ∃ wx, (((wD54.setCell ⟨GR, 0, none⟩ (.int .i64 x0)).setCell ⟨GR, 1, none⟩ (.int .i64 y0)).setCell ⟨GR, 2, none⟩ (.int .i64 x1)).setCell ⟨GR, 3, none⟩ (.int .i64 y1) = wx := ⟨_, rfl⟩; rw [hwx] at HR HQ HA HY hHeld ⊢; clear hwx
          refine wpAnyH_ready (rs := [3]) (by kernel_rfl) (by simp) ?_; refine AllReadyH.cons rfl (fun K hK => ?_) AllReadyH.nil
          obtain ⟨⟨a0, a1, a2, a3⟩, ⟨f0, f1, f2, f3⟩, az⟩ := HQ.out; go_simp; clear a0 f0 a1 f1 a2 f2 a3 f3 az
          have HR := Lib.hid ((((HR.out.far ⟨GQ, 0, none⟩ (.int .i64 b0) (by show GR ≠ GQ; exact ne_R_Q)).far ⟨GQ, 1, none⟩ (.int .i64 b1) (by show GR ≠ GQ; exact ne_R_Q)).far ⟨GQ, 2, none⟩ (.int .i64 b2) (by show GR ≠ GQ; exact ne_R_Q)).far ⟨GQ, 3, none⟩ (.int .i64 b3) (by show GR ≠ GQ; exact ne_R_Q))
          have HA := Lib.hid ((((HA.out.far ⟨GQ, 0, none⟩ (.int .i64 b0) (by show GA ≠ GQ; exact ne_A_Q)).far ⟨GQ, 1, none⟩ (.int .i64 b1) (by show GA ≠ GQ; exact ne_A_Q)).far ⟨GQ, 2, none⟩ (.int .i64 b2) (by show GA ≠ GQ; exact ne_A_Q)).far ⟨GQ, 3, none⟩ (.int .i64 b3) (by show GA ≠ GQ; exact ne_A_Q))
          have HY := Lib.hid ((((HY.out.far ⟨GQ, 0, none⟩ (.int .i64 b0) (by show GY ≠ GQ; exact ne_Y_Q)).far ⟨GQ, 1, none⟩ (.int .i64 b1) (by show GY ≠ GQ; exact ne_Y_Q)).far ⟨GQ, 2, none⟩ (.int .i64 b2) (by show GY ≠ GQ; exact ne_Y_Q)).far ⟨GQ, 3, none⟩ (.int .i64 b3) (by show GY ≠ GQ; exact ne_Y_Q))
          have HQ := Lib.hid ((((HQ.out.set0 b0).set1 b1).set2 b2).set3 b3)
          refine hK.out _ _ ⟨(Below.setCell (Below.setCell (Below.setCell (Below.setCell hHeld.1 (p := ⟨GQ, 0, none⟩) le_Q _) (p := ⟨GQ, 1, none⟩) le_Q _) (p := ⟨GQ, 2, none⟩) le_Q _) (p := ⟨GQ, 3, none⟩) le_Q _), HA.out, HY.out⟩ (fun hHeld2 => ?_); (clear hHeld; rename _ => hHeld; clear hK K; have hHeld : (fun W => Below w.heap.size w W ∧ Bk4 W GA x0 y0 x1 y1 ∧ Bk4 W GY b0 b1 b2 b3) _ := hHeld); (try simp only [Act.put, List.getElem_toArray, List.getElem_cons_succ, List.getElem_cons_zero, List.setIfInBounds_toArray, List.set_cons_zero, List.set_cons_succ])
          obtain ⟨ywr54x1, hwx⟩ : ∃ wx, (((ywr54x0.setCell ⟨GQ, 0, none⟩ (.int .i64 b0)).setCell ⟨GQ, 1, none⟩ (.int .i64 b1)).setCell ⟨GQ, 2, none⟩ (.int .i64 b2)).setCell ⟨GQ, 3, none⟩ (.int .i64 b3) = wx := ⟨_, rfl⟩; rw [hwx] at HR HQ HA HY hHeld ⊢; clear hwx
          refine wpAnyH_done (by kernel_rfl) ?_ _
          have HB := Lib.hid (hHeld.1)
          clear hHeld
          obtain ⟨⟨qR0, qR1, qR2, qR3⟩, ⟨fR0, fR1, fR2, fR3⟩, zR⟩ := HR.out
          obtain ⟨⟨qQ0, qQ1, qQ2, qQ3⟩, ⟨fQ0, fQ1, fQ2, fQ3⟩, zQ⟩ := HQ.out
          obtain ⟨⟨qA0, qA1, qA2, qA3⟩, ⟨fA0, fA1, fA2, fA3⟩, zA⟩ := HA.out
          obtain ⟨⟨qY0, qY1, qY2, qY3⟩, ⟨fY0, fY1, fY2, fY3⟩, zY⟩ := HY.out
          go_wp2_with fail
          refine bodyPost_ret (v := .tuple #[.agg #[.int .i64 x0, .int .i64 y0, .int .i64 x1, .int .i64 y1], .agg #[.int .i64 b0, .int .i64 b1, .int .i64 b2, .int .i64 b3]]) (by simp (maxDischargeDepth := 8) [results, Try.results53, go_sem, *]) rfl ?_
          have hb := HB.out
          exact ⟨x0, y0, x1, y1, b0, b1, b2, b3, rfl, hb⟩
        · skip
          have hne : (c == 0) = false := by simp [hc]
          go_wp2_with fail
          refine wp_region_held_drew (S := fun W => Below w.heap.size w W ∧ Bk4 W GA x0 y0 x1 y1 ∧ Bk4 W GY b0 b1 b2 b3) (by kernel_rfl) ?_ (fun hHeld => ?_); focus ((try dsimp only); exact ⟨Below.drew HB.out, HA.out.below (Below.drew (Below.refl _ _)), HY.out.below (Below.drew (Below.refl _ _))⟩)
          have HR := Lib.hid (HR.out.below (Below.drew (Below.refl _ _)))
          have HQ := Lib.hid (HQ.out.below (Below.drew (Below.refl _ _)))
          have HA := Lib.hid (HA.out.below (Below.drew (Below.refl _ _)))
          have HY := Lib.hid (HY.out.below (Below.drew (Below.refl _ _)))
          have HSR := Lib.hid (HSR.out.below (Below.drew (Below.refl _ _)))
          have hHeld : (fun W => Below w.heap.size w W ∧ Bk4 W GA x0 y0 x1 y1 ∧ Bk4 W GY b0 b1 b2 b3) _ := hHeld
          obtain ⟨wD54, hwD54⟩ : ∃ wD, ywr4x3.drew = wD := ⟨_, rfl⟩
          rw [hwD54] at hHeld HR HQ HA HY HSR ⊢
          clear hwD54
          (refine wpAnyH_take (i := 0) (v := ?_) rfl (by kernel_rfl) (by kernel_rfl) (by kernel_rfl) (fun _ _ _ h => h) (Or.inl ⟨rfl, ?_⟩) (by assumption) ?_; rotate_left; focus (intro W hSw; (try dsimp only at hSw); obtain ⟨hSb, hxA, hxY⟩ := hSw; obtain ⟨⟨iA0, iA1, iA2, iA3⟩, _, _⟩ := hxA; obtain ⟨⟨iY0, iY1, iY2, iY3⟩, _, _⟩ := hxY; go_simp; try (with_reducible rfl))); (try simp only [Act.put, List.getElem_toArray, List.getElem_cons_succ, List.getElem_cons_zero, List.setIfInBounds_toArray, List.set_cons_zero, List.set_cons_succ])
          (refine wpAnyH_take (i := 1) (v := ?_) rfl (by kernel_rfl) (by kernel_rfl) (by kernel_rfl) (fun _ _ _ h => h) (Or.inl ⟨rfl, ?_⟩) (by assumption) ?_; rotate_left; focus (intro W hSw; (try dsimp only at hSw); obtain ⟨hSb, hxA, hxY⟩ := hSw; obtain ⟨⟨iA0, iA1, iA2, iA3⟩, _, _⟩ := hxA; obtain ⟨⟨iY0, iY1, iY2, iY3⟩, _, _⟩ := hxY; go_simp; try (with_reducible rfl))); (try simp only [Act.put, List.getElem_toArray, List.getElem_cons_succ, List.getElem_cons_zero, List.setIfInBounds_toArray, List.set_cons_zero, List.set_cons_succ])
          refine wpAnyH_ready (rs := [2]) (by kernel_rfl) (by simp) ?_; refine AllReadyH.cons rfl (fun K hK => ?_) AllReadyH.nil
          go_simp; (go_at_call 110; refine (l02Spoil_any _ a n cap _ HSR.out).mono ?_; rintro en ywr54x0 ⟨u0, v0, u1, v1, rfl, hg, hs⟩)
          have HR := Lib.hid (HR.out.grows hg (by intro hh; injection hh with hh; exact ne_R_s hh.symm))
          have HQ := Lib.hid (HQ.out.grows hg (by intro hh; injection hh with hh; exact ne_Q_s hh.symm))
          have HA := Lib.hid (HA.out.grows hg (by intro hh; injection hh with hh; exact ne_A_s hh.symm))
          have HY := Lib.hid (HY.out.grows hg (by intro hh; injection hh with hh; exact ne_Y_s hh.symm))
          have hBn := Below.grown hHeld.1 hg (Below.size hHeld.1) (fun k hk => by injection hk with hk; omega)
          have HSR := Lib.hid hs
          clear hg hs
          refine hK.out _ _ ⟨hBn, HA.out, HY.out⟩ (fun hHeld2 => ?_); clear hBn; (clear hHeld; rename _ => hHeld; clear hK K; have hHeld : (fun W => Below w.heap.size w W ∧ Bk4 W GA x0 y0 x1 y1 ∧ Bk4 W GY b0 b1 b2 b3) _ := hHeld); (try simp only [Act.put, List.getElem_toArray, List.getElem_cons_succ, List.getElem_cons_zero, List.setIfInBounds_toArray, List.set_cons_zero, List.set_cons_succ])
          refine wpAnyH_ready (rs := [3]) (by kernel_rfl) (by simp) ?_; refine AllReadyH.cons rfl (fun K hK => ?_) AllReadyH.nil
          clear HSR
          obtain ⟨⟨a0, a1, a2, a3⟩, ⟨f0, f1, f2, f3⟩, az⟩ := HR.out; go_simp; clear a0 f0 a1 f1 a2 f2 a3 f3 az
          have HQ := Lib.hid ((((HQ.out.far ⟨GR, 0, none⟩ (.int .i64 x0) (by show GQ ≠ GR; exact ne_Q_R)).far ⟨GR, 1, none⟩ (.int .i64 y0) (by show GQ ≠ GR; exact ne_Q_R)).far ⟨GR, 2, none⟩ (.int .i64 x1) (by show GQ ≠ GR; exact ne_Q_R)).far ⟨GR, 3, none⟩ (.int .i64 y1) (by show GQ ≠ GR; exact ne_Q_R))
          have HA := Lib.hid ((((HA.out.far ⟨GR, 0, none⟩ (.int .i64 x0) (by show GA ≠ GR; exact ne_A_R)).far ⟨GR, 1, none⟩ (.int .i64 y0) (by show GA ≠ GR; exact ne_A_R)).far ⟨GR, 2, none⟩ (.int .i64 x1) (by show GA ≠ GR; exact ne_A_R)).far ⟨GR, 3, none⟩ (.int .i64 y1) (by show GA ≠ GR; exact ne_A_R))
          have HY := Lib.hid ((((HY.out.far ⟨GR, 0, none⟩ (.int .i64 x0) (by show GY ≠ GR; exact ne_Y_R)).far ⟨GR, 1, none⟩ (.int .i64 y0) (by show GY ≠ GR; exact ne_Y_R)).far ⟨GR, 2, none⟩ (.int .i64 x1) (by show GY ≠ GR; exact ne_Y_R)).far ⟨GR, 3, none⟩ (.int .i64 y1) (by show GY ≠ GR; exact ne_Y_R))
          have HR := Lib.hid ((((HR.out.set0 x0).set1 y0).set2 x1).set3 y1)
          refine hK.out _ _ ⟨(Below.setCell (Below.setCell (Below.setCell (Below.setCell hHeld.1 (p := ⟨GR, 0, none⟩) le_R _) (p := ⟨GR, 1, none⟩) le_R _) (p := ⟨GR, 2, none⟩) le_R _) (p := ⟨GR, 3, none⟩) le_R _), HA.out, HY.out⟩ (fun hHeld2 => ?_); (clear hHeld; rename _ => hHeld; clear hK K; have hHeld : (fun W => Below w.heap.size w W ∧ Bk4 W GA x0 y0 x1 y1 ∧ Bk4 W GY b0 b1 b2 b3) _ := hHeld); (try simp only [Act.put, List.getElem_toArray, List.getElem_cons_succ, List.getElem_cons_zero, List.setIfInBounds_toArray, List.set_cons_zero, List.set_cons_succ])
          obtain ⟨ywr54x1, hwx⟩ : ∃ wx, (((ywr54x0.setCell ⟨GR, 0, none⟩ (.int .i64 x0)).setCell ⟨GR, 1, none⟩ (.int .i64 y0)).setCell ⟨GR, 2, none⟩ (.int .i64 x1)).setCell ⟨GR, 3, none⟩ (.int .i64 y1) = wx := ⟨_, rfl⟩; rw [hwx] at HR HQ HA HY hHeld ⊢; clear hwx
          refine wpAnyH_ready (rs := [4]) (by kernel_rfl) (by simp) ?_; refine AllReadyH.cons rfl (fun K hK => ?_) AllReadyH.nil
          obtain ⟨⟨a0, a1, a2, a3⟩, ⟨f0, f1, f2, f3⟩, az⟩ := HQ.out; go_simp; clear a0 f0 a1 f1 a2 f2 a3 f3 az
          have HR := Lib.hid ((((HR.out.far ⟨GQ, 0, none⟩ (.int .i64 u0) (by show GR ≠ GQ; exact ne_R_Q)).far ⟨GQ, 1, none⟩ (.int .i64 v0) (by show GR ≠ GQ; exact ne_R_Q)).far ⟨GQ, 2, none⟩ (.int .i64 u1) (by show GR ≠ GQ; exact ne_R_Q)).far ⟨GQ, 3, none⟩ (.int .i64 v1) (by show GR ≠ GQ; exact ne_R_Q))
          have HA := Lib.hid ((((HA.out.far ⟨GQ, 0, none⟩ (.int .i64 u0) (by show GA ≠ GQ; exact ne_A_Q)).far ⟨GQ, 1, none⟩ (.int .i64 v0) (by show GA ≠ GQ; exact ne_A_Q)).far ⟨GQ, 2, none⟩ (.int .i64 u1) (by show GA ≠ GQ; exact ne_A_Q)).far ⟨GQ, 3, none⟩ (.int .i64 v1) (by show GA ≠ GQ; exact ne_A_Q))
          have HY := Lib.hid ((((HY.out.far ⟨GQ, 0, none⟩ (.int .i64 u0) (by show GY ≠ GQ; exact ne_Y_Q)).far ⟨GQ, 1, none⟩ (.int .i64 v0) (by show GY ≠ GQ; exact ne_Y_Q)).far ⟨GQ, 2, none⟩ (.int .i64 u1) (by show GY ≠ GQ; exact ne_Y_Q)).far ⟨GQ, 3, none⟩ (.int .i64 v1) (by show GY ≠ GQ; exact ne_Y_Q))
          have HQ := Lib.hid ((((HQ.out.set0 u0).set1 v0).set2 u1).set3 v1)
          refine hK.out _ _ ⟨(Below.setCell (Below.setCell (Below.setCell (Below.setCell hHeld.1 (p := ⟨GQ, 0, none⟩) le_Q _) (p := ⟨GQ, 1, none⟩) le_Q _) (p := ⟨GQ, 2, none⟩) le_Q _) (p := ⟨GQ, 3, none⟩) le_Q _), HA.out, HY.out⟩ (fun hHeld2 => ?_); (clear hHeld; rename _ => hHeld; clear hK K; have hHeld : (fun W => Below w.heap.size w W ∧ Bk4 W GA x0 y0 x1 y1 ∧ Bk4 W GY b0 b1 b2 b3) _ := hHeld); (try simp only [Act.put, List.getElem_toArray, List.getElem_cons_succ, List.getElem_cons_zero, List.setIfInBounds_toArray, List.set_cons_zero, List.set_cons_succ])
          obtain ⟨ywr54x2, hwx⟩ : ∃ wx, (((ywr54x1.setCell ⟨GQ, 0, none⟩ (.int .i64 u0)).setCell ⟨GQ, 1, none⟩ (.int .i64 v0)).setCell ⟨GQ, 2, none⟩ (.int .i64 u1)).setCell ⟨GQ, 3, none⟩ (.int .i64 v1) = wx := ⟨_, rfl⟩; rw [hwx] at HR HQ HA HY hHeld ⊢; clear hwx
          refine wpAnyH_done (by kernel_rfl) ?_ _
          have HB := Lib.hid (hHeld.1)
          clear hHeld
          obtain ⟨⟨qR0, qR1, qR2, qR3⟩, ⟨fR0, fR1, fR2, fR3⟩, zR⟩ := HR.out
          obtain ⟨⟨qQ0, qQ1, qQ2, qQ3⟩, ⟨fQ0, fQ1, fQ2, fQ3⟩, zQ⟩ := HQ.out
          obtain ⟨⟨qA0, qA1, qA2, qA3⟩, ⟨fA0, fA1, fA2, fA3⟩, zA⟩ := HA.out
          obtain ⟨⟨qY0, qY1, qY2, qY3⟩, ⟨fY0, fY1, fY2, fY3⟩, zY⟩ := HY.out
          go_wp2_with fail
          refine bodyPost_ret (v := .tuple #[.agg #[.int .i64 x0, .int .i64 y0, .int .i64 x1, .int .i64 y1], .agg #[.int .i64 u0, .int .i64 v0, .int .i64 u1, .int .i64 v1]]) (by simp (maxDischargeDepth := 8) [results, Try.results53, go_sem, *]) rfl ?_
          have hb := HB.out
          exact ⟨x0, y0, x1, y1, u0, v0, u1, v1, rfl, hb⟩
      · skip
        go_simp; obtain ⟨GY, hGY⟩ : ∃ G, ywr4x0.heap.size = G := ⟨_, rfl⟩; have le_Y : w.heap.size ≤ GY := by rw [← hGY]; exact Below.size hHeld.1
        have ne_Y_R : GY ≠ GR := by have := HR.out.2.2; omega
        have ne_R_Y : GR ≠ GY := Ne.symm ne_Y_R
        have ne_Y_Q : GY ≠ GQ := by have := HQ.out.2.2; omega
        have ne_Q_Y : GQ ≠ GY := Ne.symm ne_Y_Q
        have ne_Y_A : GY ≠ GA := by have := HA.out.2.2; omega
        have ne_A_Y : GA ≠ GY := Ne.symm ne_Y_A
        have lt_s_Y : sG < GY := by have := HSR.out.lt; omega
        have ne_Y_s : GY ≠ sG := by omega
        have HR := Lib.hid (HR.out.below ((Below.refl _ _).alloc (Nat.le_refl _) (.cells #[.int .i64 0, .int .i64 0, .int .i64 0, .int .i64 0] 52))); have HQ := Lib.hid (HQ.out.below ((Below.refl _ _).alloc (Nat.le_refl _) (.cells #[.int .i64 0, .int .i64 0, .int .i64 0, .int .i64 0] 52))); have HA := Lib.hid (HA.out.below ((Below.refl _ _).alloc (Nat.le_refl _) (.cells #[.int .i64 0, .int .i64 0, .int .i64 0, .int .i64 0] 52))); have HSR := Lib.hid (HSR.out.below ((Below.refl _ _).alloc (Nat.le_refl _) (.cells #[.int .i64 0, .int .i64 0, .int .i64 0, .int .i64 0] 52))); skip
        have HY : Hid (Bk4 (ywr4x0.alloc (.cells #[.int .i64 0, .int .i64 0, .int .i64 0, .int .i64 0] 52)) GY 0 0 0 0) := by rw [← hGY]; exact bk4_new ywr4x0 0 0 0 0 _
        refine hK.out _ _ ⟨Below.alloc hHeld.1 (Below.size hHeld.1) _, HR.out, HQ.out, HA.out⟩ (fun hHeld2 => ?_); (clear hHeld; rename _ => hHeld; clear hK K; have hHeld : (fun W => Below w.heap.size w W ∧ Bk4 W GR 0 0 0 0 ∧ Bk4 W GQ 0 0 0 0 ∧ Bk4 W GA x0 y0 x1 y1) _ := hHeld); (try simp only [Act.put, List.getElem_toArray, List.getElem_cons_succ, List.getElem_cons_zero, List.setIfInBounds_toArray, List.set_cons_zero, List.set_cons_succ])
        rw [hGY]; clear hGY; obtain ⟨ywr4x1, hwx⟩ : ∃ wx, ywr4x0.alloc (.cells #[.int .i64 0, .int .i64 0, .int .i64 0, .int .i64 0] 52) = wx := ⟨_, rfl⟩; rw [hwx] at HR HQ HA HSR HY hHeld ⊢; clear hwx
        refine wpAnyH_ready (rs := [3]) (by kernel_rfl) (by simp) ?_; refine AllReadyH.cons rfl (fun K hK => ?_) AllReadyH.nil
        go_simp; (go_at_call 39; refine (CM.out _ _ _ _ _).mono ?_; rintro en ywr4x2 ⟨b0, b1, b2, b3, c, rfl, hb2⟩); have HR := Lib.hid (HR.out.below hb2); have HQ := Lib.hid (HQ.out.below hb2); have HA := Lib.hid (HA.out.below hb2); have HY := Lib.hid (HY.out.below hb2); have HSR := Lib.hid (HSR.out.below hb2); refine hK.out _ _ ⟨below_after hb2 hHeld.1, HR.out, HQ.out, HA.out⟩ (fun hHeld2 => ?_); clear hb2; (clear hHeld; rename _ => hHeld; clear hK K; have hHeld : (fun W => Below w.heap.size w W ∧ Bk4 W GR 0 0 0 0 ∧ Bk4 W GQ 0 0 0 0 ∧ Bk4 W GA x0 y0 x1 y1) _ := hHeld); (try simp only [Act.put, List.getElem_toArray, List.getElem_cons_succ, List.getElem_cons_zero, List.setIfInBounds_toArray, List.set_cons_zero, List.set_cons_succ])
        (refine wpAnyH_take (i := 4) (v := ?_) rfl (by kernel_rfl) (by kernel_rfl) (by kernel_rfl) (fun _ _ _ h => h) (Or.inl ⟨rfl, ?_⟩) (by assumption) ?_; rotate_left; focus (intro W hSw; (try dsimp only at hSw); obtain ⟨hSb, hxR, hxQ, hxA⟩ := hSw; obtain ⟨⟨iR0, iR1, iR2, iR3⟩, _, _⟩ := hxR; obtain ⟨⟨iQ0, iQ1, iQ2, iQ3⟩, _, _⟩ := hxQ; obtain ⟨⟨iA0, iA1, iA2, iA3⟩, _, _⟩ := hxA; go_simp; try (with_reducible rfl))); (try simp only [Act.put, List.getElem_toArray, List.getElem_cons_succ, List.getElem_cons_zero, List.setIfInBounds_toArray, List.set_cons_zero, List.set_cons_succ])
        (refine wpAnyH_take (i := 5) (v := ?_) rfl (by kernel_rfl) (by kernel_rfl) (by kernel_rfl) (fun _ _ _ h => h) (Or.inl ⟨rfl, ?_⟩) (by assumption) ?_; rotate_left; focus (intro W hSw; (try dsimp only at hSw); obtain ⟨hSb, hxR, hxQ, hxA⟩ := hSw; obtain ⟨⟨iR0, iR1, iR2, iR3⟩, _, _⟩ := hxR; obtain ⟨⟨iQ0, iQ1, iQ2, iQ3⟩, _, _⟩ := hxQ; obtain ⟨⟨iA0, iA1, iA2, iA3⟩, _, _⟩ := hxA; go_simp; try (with_reducible rfl))); (try simp only [Act.put, List.getElem_toArray, List.getElem_cons_succ, List.getElem_cons_zero, List.setIfInBounds_toArray, List.set_cons_zero, List.set_cons_succ])
        (refine wpAnyH_take (i := 6) (v := ?_) rfl (by kernel_rfl) (by kernel_rfl) (by kernel_rfl) (fun _ _ _ h => h) (Or.inl ⟨rfl, ?_⟩) (by assumption) ?_; rotate_left; focus (intro W hSw; (try dsimp only at hSw); obtain ⟨hSb, hxR, hxQ, hxA⟩ := hSw; obtain ⟨⟨iR0, iR1, iR2, iR3⟩, _, _⟩ := hxR; obtain ⟨⟨iQ0, iQ1, iQ2, iQ3⟩, _, _⟩ := hxQ; obtain ⟨⟨iA0, iA1, iA2, iA3⟩, _, _⟩ := hxA; go_simp; try (with_reducible rfl))); (try simp only [Act.put, List.getElem_toArray, List.getElem_cons_succ, List.getElem_cons_zero, List.setIfInBounds_toArray, List.set_cons_zero, List.set_cons_succ])
        refine wpAnyH_ready (rs := [8]) (by kernel_rfl) (by simp) ?_; refine AllReadyH.cons rfl (fun K hK => ?_) AllReadyH.nil
        obtain ⟨⟨a0, a1, a2, a3⟩, ⟨f0, f1, f2, f3⟩, az⟩ := HY.out; go_simp; clear a0 f0 a1 f1 a2 f2 a3 f3 az
        have HR := Lib.hid ((((HR.out.far ⟨GY, 0, none⟩ (.int .i64 b0) (by show GR ≠ GY; exact ne_R_Y)).far ⟨GY, 1, none⟩ (.int .i64 b1) (by show GR ≠ GY; exact ne_R_Y)).far ⟨GY, 2, none⟩ (.int .i64 b2) (by show GR ≠ GY; exact ne_R_Y)).far ⟨GY, 3, none⟩ (.int .i64 b3) (by show GR ≠ GY; exact ne_R_Y))
        have HQ := Lib.hid ((((HQ.out.far ⟨GY, 0, none⟩ (.int .i64 b0) (by show GQ ≠ GY; exact ne_Q_Y)).far ⟨GY, 1, none⟩ (.int .i64 b1) (by show GQ ≠ GY; exact ne_Q_Y)).far ⟨GY, 2, none⟩ (.int .i64 b2) (by show GQ ≠ GY; exact ne_Q_Y)).far ⟨GY, 3, none⟩ (.int .i64 b3) (by show GQ ≠ GY; exact ne_Q_Y))
        have HA := Lib.hid ((((HA.out.far ⟨GY, 0, none⟩ (.int .i64 b0) (by show GA ≠ GY; exact ne_A_Y)).far ⟨GY, 1, none⟩ (.int .i64 b1) (by show GA ≠ GY; exact ne_A_Y)).far ⟨GY, 2, none⟩ (.int .i64 b2) (by show GA ≠ GY; exact ne_A_Y)).far ⟨GY, 3, none⟩ (.int .i64 b3) (by show GA ≠ GY; exact ne_A_Y))
        have HSR := Lib.hid (sr_set (sr_set (sr_set (sr_set HSR.out _ 0 (.int .i64 b0) lt_s_Y) _ 1 (.int .i64 b1) lt_s_Y) _ 2 (.int .i64 b2) lt_s_Y) _ 3 (.int .i64 b3) lt_s_Y)
        have HY := Lib.hid ((((HY.out.set0 b0).set1 b1).set2 b2).set3 b3)
        refine hK.out _ _ ⟨(Below.setCell (Below.setCell (Below.setCell (Below.setCell hHeld.1 (p := ⟨GY, 0, none⟩) le_Y _) (p := ⟨GY, 1, none⟩) le_Y _) (p := ⟨GY, 2, none⟩) le_Y _) (p := ⟨GY, 3, none⟩) le_Y _), HR.out, HQ.out, HA.out⟩ (fun hHeld2 => ?_); (clear hHeld; rename _ => hHeld; clear hK K; have hHeld : (fun W => Below w.heap.size w W ∧ Bk4 W GR 0 0 0 0 ∧ Bk4 W GQ 0 0 0 0 ∧ Bk4 W GA x0 y0 x1 y1) _ := hHeld); (try simp only [Act.put, List.getElem_toArray, List.getElem_cons_succ, List.getElem_cons_zero, List.setIfInBounds_toArray, List.set_cons_zero, List.set_cons_succ])
        obtain ⟨ywr4x3, hwx⟩ : ∃ wx, (((ywr4x2.setCell ⟨GY, 0, none⟩ (.int .i64 b0)).setCell ⟨GY, 1, none⟩ (.int .i64 b1)).setCell ⟨GY, 2, none⟩ (.int .i64 b2)).setCell ⟨GY, 3, none⟩ (.int .i64 b3) = wx := ⟨_, rfl⟩; rw [hwx] at HR HQ HA HY HSR hHeld ⊢; clear hwx
        (refine wpAnyH_take (i := 9) (v := ?_) rfl (by kernel_rfl) (by kernel_rfl) (by kernel_rfl) (fun _ _ _ h => h) (Or.inl ⟨rfl, ?_⟩) (by assumption) ?_; rotate_left; focus (intro W hSw; (try dsimp only at hSw); obtain ⟨hSb, hxR, hxQ, hxA⟩ := hSw; obtain ⟨⟨iR0, iR1, iR2, iR3⟩, _, _⟩ := hxR; obtain ⟨⟨iQ0, iQ1, iQ2, iQ3⟩, _, _⟩ := hxQ; obtain ⟨⟨iA0, iA1, iA2, iA3⟩, _, _⟩ := hxA; go_simp; try (with_reducible rfl))); (try simp only [Act.put, List.getElem_toArray, List.getElem_cons_succ, List.getElem_cons_zero, List.setIfInBounds_toArray, List.set_cons_zero, List.set_cons_succ])
        refine wpAnyH_done (by kernel_rfl) ?_ _
        have HB := Lib.hid (hHeld.1)
        clear hHeld
        by_cases hc : c = 0
        · subst hc
          clear HSR
          go_wp2_with fail
          refine wp_region_held_drew (S := fun W => Below w.heap.size w W ∧ Bk4 W GA x0 y0 x1 y1 ∧ Bk4 W GY b0 b1 b2 b3) (by kernel_rfl) ?_ (fun hHeld => ?_); focus ((try dsimp only); exact ⟨Below.drew HB.out, HA.out.below (Below.drew (Below.refl _ _)), HY.out.below (Below.drew (Below.refl _ _))⟩)
          have HR := Lib.hid (HR.out.below (Below.drew (Below.refl _ _)))
          have HQ := Lib.hid (HQ.out.below (Below.drew (Below.refl _ _)))
          have HA := Lib.hid (HA.out.below (Below.drew (Below.refl _ _)))
          have HY := Lib.hid (HY.out.below (Below.drew (Below.refl _ _)))
          have hHeld : (fun W => Below w.heap.size w W ∧ Bk4 W GA x0 y0 x1 y1 ∧ Bk4 W GY b0 b1 b2 b3) _ := hHeld
          obtain ⟨wD54, hwD54⟩ : ∃ wD, ywr4x3.drew = wD := ⟨_, rfl⟩
          rw [hwD54] at hHeld HR HQ HA HY ⊢
          clear hwD54
          (refine wpAnyH_take (i := 0) (v := ?_) rfl (by kernel_rfl) (by kernel_rfl) (by kernel_rfl) (fun _ _ _ h => h) (Or.inl ⟨rfl, ?_⟩) (by assumption) ?_; rotate_left; focus (intro W hSw; (try dsimp only at hSw); obtain ⟨hSb, hxA, hxY⟩ := hSw; obtain ⟨⟨iA0, iA1, iA2, iA3⟩, _, _⟩ := hxA; obtain ⟨⟨iY0, iY1, iY2, iY3⟩, _, _⟩ := hxY; go_simp; try (with_reducible rfl))); (try simp only [Act.put, List.getElem_toArray, List.getElem_cons_succ, List.getElem_cons_zero, List.setIfInBounds_toArray, List.set_cons_zero, List.set_cons_succ])
          (refine wpAnyH_take (i := 1) (v := ?_) rfl (by kernel_rfl) (by kernel_rfl) (by kernel_rfl) (fun _ _ _ h => h) (Or.inl ⟨rfl, ?_⟩) (by assumption) ?_; rotate_left; focus (intro W hSw; (try dsimp only at hSw); obtain ⟨hSb, hxA, hxY⟩ := hSw; obtain ⟨⟨iA0, iA1, iA2, iA3⟩, _, _⟩ := hxA; obtain ⟨⟨iY0, iY1, iY2, iY3⟩, _, _⟩ := hxY; go_simp; try (with_reducible rfl))); (try simp only [Act.put, List.getElem_toArray, List.getElem_cons_succ, List.getElem_cons_zero, List.setIfInBounds_toArray, List.set_cons_zero, List.set_cons_succ])
          refine wpAnyH_ready (rs := [2]) (by kernel_rfl) (by simp) ?_; refine AllReadyH.cons rfl (fun K hK => ?_) AllReadyH.nil
          obtain ⟨⟨a0, a1, a2, a3⟩, ⟨f0, f1, f2, f3⟩, az⟩ := HR.out; go_simp; clear a0 f0 a1 f1 a2 f2 a3 f3 az
          have HQ := Lib.hid ((((HQ.out.far ⟨GR, 0, none⟩ (.int .i64 x0) (by show GQ ≠ GR; exact ne_Q_R)).far ⟨GR, 1, none⟩ (.int .i64 y0) (by show GQ ≠ GR; exact ne_Q_R)).far ⟨GR, 2, none⟩ (.int .i64 x1) (by show GQ ≠ GR; exact ne_Q_R)).far ⟨GR, 3, none⟩ (.int .i64 y1) (by show GQ ≠ GR; exact ne_Q_R))
          have HA := Lib.hid ((((HA.out.far ⟨GR, 0, none⟩ (.int .i64 x0) (by show GA ≠ GR; exact ne_A_R)).far ⟨GR, 1, none⟩ (.int .i64 y0) (by show GA ≠ GR; exact ne_A_R)).far ⟨GR, 2, none⟩ (.int .i64 x1) (by show GA ≠ GR; exact ne_A_R)).far ⟨GR, 3, none⟩ (.int .i64 y1) (by show GA ≠ GR; exact ne_A_R))
          have HY := Lib.hid ((((HY.out.far ⟨GR, 0, none⟩ (.int .i64 x0) (by show GY ≠ GR; exact ne_Y_R)).far ⟨GR, 1, none⟩ (.int .i64 y0) (by show GY ≠ GR; exact ne_Y_R)).far ⟨GR, 2, none⟩ (.int .i64 x1) (by show GY ≠ GR; exact ne_Y_R)).far ⟨GR, 3, none⟩ (.int .i64 y1) (by show GY ≠ GR; exact ne_Y_R))
          have HR := Lib.hid ((((HR.out.set0 x0).set1 y0).set2 x1).set3 y1)
          refine hK.out _ _ ⟨(Below.setCell (Below.setCell (Below.setCell (Below.setCell hHeld.1 (p := ⟨GR, 0, none⟩) le_R _) (p := ⟨GR, 1, none⟩) le_R _) (p := ⟨GR, 2, none⟩) le_R _) (p := ⟨GR, 3, none⟩) le_R _), HA.out, HY.out⟩ (fun hHeld2 => ?_); (clear hHeld; rename _ => hHeld; clear hK K; have hHeld : (fun W => Below w.heap.size w W ∧ Bk4 W GA x0 y0 x1 y1 ∧ Bk4 W GY b0 b1 b2 b3) _ := hHeld); (try simp only [Act.put, List.getElem_toArray, List.getElem_cons_succ, List.getElem_cons_zero, List.setIfInBounds_toArray, List.set_cons_zero, List.set_cons_succ])
          obtain ⟨ywr54x0, hwx⟩ : ∃ wx, (((wD54.setCell ⟨GR, 0, none⟩ (.int .i64 x0)).setCell ⟨GR, 1, none⟩ (.int .i64 y0)).setCell ⟨GR, 2, none⟩ (.int .i64 x1)).setCell ⟨GR, 3, none⟩ (.int .i64 y1) = wx := ⟨_, rfl⟩; rw [hwx] at HR HQ HA HY hHeld ⊢; clear hwx
          refine wpAnyH_ready (rs := [3]) (by kernel_rfl) (by simp) ?_; refine AllReadyH.cons rfl (fun K hK => ?_) AllReadyH.nil
          obtain ⟨⟨a0, a1, a2, a3⟩, ⟨f0, f1, f2, f3⟩, az⟩ := HQ.out; go_simp; clear a0 f0 a1 f1 a2 f2 a3 f3 az
          have HR := Lib.hid ((((HR.out.far ⟨GQ, 0, none⟩ (.int .i64 b0) (by show GR ≠ GQ; exact ne_R_Q)).far ⟨GQ, 1, none⟩ (.int .i64 b1) (by show GR ≠ GQ; exact ne_R_Q)).far ⟨GQ, 2, none⟩ (.int .i64 b2) (by show GR ≠ GQ; exact ne_R_Q)).far ⟨GQ, 3, none⟩ (.int .i64 b3) (by show GR ≠ GQ; exact ne_R_Q))
          have HA := Lib.hid ((((HA.out.far ⟨GQ, 0, none⟩ (.int .i64 b0) (by show GA ≠ GQ; exact ne_A_Q)).far ⟨GQ, 1, none⟩ (.int .i64 b1) (by show GA ≠ GQ; exact ne_A_Q)).far ⟨GQ, 2, none⟩ (.int .i64 b2) (by show GA ≠ GQ; exact ne_A_Q)).far ⟨GQ, 3, none⟩ (.int .i64 b3) (by show GA ≠ GQ; exact ne_A_Q))
          have HY := Lib.hid ((((HY.out.far ⟨GQ, 0, none⟩ (.int .i64 b0) (by show GY ≠ GQ; exact ne_Y_Q)).far ⟨GQ, 1, none⟩ (.int .i64 b1) (by show GY ≠ GQ; exact ne_Y_Q)).far ⟨GQ, 2, none⟩ (.int .i64 b2) (by show GY ≠ GQ; exact ne_Y_Q)).far ⟨GQ, 3, none⟩ (.int .i64 b3) (by show GY ≠ GQ; exact ne_Y_Q))
          have HQ := Lib.hid ((((HQ.out.set0 b0).set1 b1).set2 b2).set3 b3)
          refine hK.out _ _ ⟨(Below.setCell (Below.setCell (Below.setCell (Below.setCell hHeld.1 (p := ⟨GQ, 0, none⟩) le_Q _) (p := ⟨GQ, 1, none⟩) le_Q _) (p := ⟨GQ, 2, none⟩) le_Q _) (p := ⟨GQ, 3, none⟩) le_Q _), HA.out, HY.out⟩ (fun hHeld2 => ?_); (clear hHeld; rename _ => hHeld; clear hK K; have hHeld : (fun W => Below w.heap.size w W ∧ Bk4 W GA x0 y0 x1 y1 ∧ Bk4 W GY b0 b1 b2 b3) _ := hHeld); (try simp only [Act.put, List.getElem_toArray, List.getElem_cons_succ, List.getElem_cons_zero, List.setIfInBounds_toArray, List.set_cons_zero, List.set_cons_succ])
          obtain ⟨ywr54x1, hwx⟩ : ∃ wx, (((ywr54x0.setCell ⟨GQ, 0, none⟩ (.int .i64 b0)).setCell ⟨GQ, 1, none⟩ (.int .i64 b1)).setCell ⟨GQ, 2, none⟩ (.int .i64 b2)).setCell ⟨GQ, 3, none⟩ (.int .i64 b3) = wx := ⟨_, rfl⟩; rw [hwx] at HR HQ HA HY hHeld ⊢; clear hwx
          refine wpAnyH_done (by kernel_rfl) ?_ _
          have HB := Lib.hid (hHeld.1)
          clear hHeld
          obtain ⟨⟨qR0, qR1, qR2, qR3⟩, ⟨fR0, fR1, fR2, fR3⟩, zR⟩ := HR.out
          obtain ⟨⟨qQ0, qQ1, qQ2, qQ3⟩, ⟨fQ0, fQ1, fQ2, fQ3⟩, zQ⟩ := HQ.out
          obtain ⟨⟨qA0, qA1, qA2, qA3⟩, ⟨fA0, fA1, fA2, fA3⟩, zA⟩ := HA.out
          obtain ⟨⟨qY0, qY1, qY2, qY3⟩, ⟨fY0, fY1, fY2, fY3⟩, zY⟩ := HY.out
          go_wp2_with fail
          refine bodyPost_ret (v := .tuple #[.agg #[.int .i64 x0, .int .i64 y0, .int .i64 x1, .int .i64 y1], .agg #[.int .i64 b0, .int .i64 b1, .int .i64 b2, .int .i64 b3]]) (by simp (maxDischargeDepth := 8) [results, Try.results53, go_sem, *]) rfl ?_
          have hb := HB.out
          exact ⟨x0, y0, x1, y1, b0, b1, b2, b3, rfl, hb⟩
        · skip
          have hne : (c == 0) = false := by simp [hc]
          go_wp2_with fail
          refine wp_region_held_drew (S := fun W => Below w.heap.size w W ∧ Bk4 W GA x0 y0 x1 y1 ∧ Bk4 W GY b0 b1 b2 b3) (by kernel_rfl) ?_ (fun hHeld => ?_); focus ((try dsimp only); exact ⟨Below.drew HB.out, HA.out.below (Below.drew (Below.refl _ _)), HY.out.below (Below.drew (Below.refl _ _))⟩)
          have HR := Lib.hid (HR.out.below (Below.drew (Below.refl _ _)))
          have HQ := Lib.hid (HQ.out.below (Below.drew (Below.refl _ _)))
          have HA := Lib.hid (HA.out.below (Below.drew (Below.refl _ _)))
          have HY := Lib.hid (HY.out.below (Below.drew (Below.refl _ _)))
          have HSR := Lib.hid (HSR.out.below (Below.drew (Below.refl _ _)))
          have hHeld : (fun W => Below w.heap.size w W ∧ Bk4 W GA x0 y0 x1 y1 ∧ Bk4 W GY b0 b1 b2 b3) _ := hHeld
          obtain ⟨wD54, hwD54⟩ : ∃ wD, ywr4x3.drew = wD := ⟨_, rfl⟩
          rw [hwD54] at hHeld HR HQ HA HY HSR ⊢
          clear hwD54
          (refine wpAnyH_take (i := 0) (v := ?_) rfl (by kernel_rfl) (by kernel_rfl) (by kernel_rfl) (fun _ _ _ h => h) (Or.inl ⟨rfl, ?_⟩) (by assumption) ?_; rotate_left; focus (intro W hSw; (try dsimp only at hSw); obtain ⟨hSb, hxA, hxY⟩ := hSw; obtain ⟨⟨iA0, iA1, iA2, iA3⟩, _, _⟩ := hxA; obtain ⟨⟨iY0, iY1, iY2, iY3⟩, _, _⟩ := hxY; go_simp; try (with_reducible rfl))); (try simp only [Act.put, List.getElem_toArray, List.getElem_cons_succ, List.getElem_cons_zero, List.setIfInBounds_toArray, List.set_cons_zero, List.set_cons_succ])
          (refine wpAnyH_take (i := 1) (v := ?_) rfl (by kernel_rfl) (by kernel_rfl) (by kernel_rfl) (fun _ _ _ h => h) (Or.inl ⟨rfl, ?_⟩) (by assumption) ?_; rotate_left; focus (intro W hSw; (try dsimp only at hSw); obtain ⟨hSb, hxA, hxY⟩ := hSw; obtain ⟨⟨iA0, iA1, iA2, iA3⟩, _, _⟩ := hxA; obtain ⟨⟨iY0, iY1, iY2, iY3⟩, _, _⟩ := hxY; go_simp; try (with_reducible rfl))); (try simp only [Act.put, List.getElem_toArray, List.getElem_cons_succ, List.getElem_cons_zero, List.setIfInBounds_toArray, List.set_cons_zero, List.set_cons_succ])
          refine wpAnyH_ready (rs := [2]) (by kernel_rfl) (by simp) ?_; refine AllReadyH.cons rfl (fun K hK => ?_) AllReadyH.nil
          go_simp; (go_at_call 110; refine (l02Spoil_any _ a n cap _ HSR.out).mono ?_; rintro en ywr54x0 ⟨u0, v0, u1, v1, rfl, hg, hs⟩)
          have HR := Lib.hid (HR.out.grows hg (by intro hh; injection hh with hh; exact ne_R_s hh.symm))
          have HQ := Lib.hid (HQ.out.grows hg (by intro hh; injection hh with hh; exact ne_Q_s hh.symm))
          have HA := Lib.hid (HA.out.grows hg (by intro hh; injection hh with hh; exact ne_A_s hh.symm))
          have HY := Lib.hid (HY.out.grows hg (by intro hh; injection hh with hh; exact ne_Y_s hh.symm))
          have hBn := Below.grown hHeld.1 hg (Below.size hHeld.1) (fun k hk => by injection hk with hk; omega)
          have HSR := Lib.hid hs
          clear hg hs
          refine hK.out _ _ ⟨hBn, HA.out, HY.out⟩ (fun hHeld2 => ?_); clear hBn; (clear hHeld; rename _ => hHeld; clear hK K; have hHeld : (fun W => Below w.heap.size w W ∧ Bk4 W GA x0 y0 x1 y1 ∧ Bk4 W GY b0 b1 b2 b3) _ := hHeld); (try simp only [Act.put, List.getElem_toArray, List.getElem_cons_succ, List.getElem_cons_zero, List.setIfInBounds_toArray, List.set_cons_zero, List.set_cons_succ])
          refine wpAnyH_ready (rs := [3]) (by kernel_rfl) (by simp) ?_; refine AllReadyH.cons rfl (fun K hK => ?_) AllReadyH.nil
          clear HSR
          obtain ⟨⟨a0, a1, a2, a3⟩, ⟨f0, f1, f2, f3⟩, az⟩ := HR.out; go_simp; clear a0 f0 a1 f1 a2 f2 a3 f3 az
          have HQ := Lib.hid ((((HQ.out.far ⟨GR, 0, none⟩ (.int .i64 x0) (by show GQ ≠ GR; exact ne_Q_R)).far ⟨GR, 1, none⟩ (.int .i64 y0) (by show GQ ≠ GR; exact ne_Q_R)).far ⟨GR, 2, none⟩ (.int .i64 x1) (by show GQ ≠ GR; exact ne_Q_R)).far ⟨GR, 3, none⟩ (.int .i64 y1) (by show GQ ≠ GR; exact ne_Q_R))
          have HA := Lib.hid ((((HA.out.far ⟨GR, 0, none⟩ (.int .i64 x0) (by show GA ≠ GR; exact ne_A_R)).far ⟨GR, 1, none⟩ (.int .i64 y0) (by show GA ≠ GR; exact ne_A_R)).far ⟨GR, 2, none⟩ (.int .i64 x1) (by show GA ≠ GR; exact ne_A_R)).far ⟨GR, 3, none⟩ (.int .i64 y1) (by show GA ≠ GR; exact ne_A_R))
          have HY := Lib.hid ((((HY.out.far ⟨GR, 0, none⟩ (.int .i64 x0) (by show GY ≠ GR; exact ne_Y_R)).far ⟨GR, 1, none⟩ (.int .i64 y0) (by show GY ≠ GR; exact ne_Y_R)).far ⟨GR, 2, none⟩ (.int .i64 x1) (by show GY ≠ GR; exact ne_Y_R)).far ⟨GR, 3, none⟩ (.int .i64 y1) (by show GY ≠ GR; exact ne_Y_R))
          have HR := Lib.hid ((((HR.out.set0 x0).set1 y0).set2 x1).set3 y1)
          refine hK.out _ _ ⟨(Below.setCell (Below.setCell (Below.setCell (Below.setCell hHeld.1 (p := ⟨GR, 0, none⟩) le_R _) (p := ⟨GR, 1, none⟩) le_R _) (p := ⟨GR, 2, none⟩) le_R _) (p := ⟨GR, 3, none⟩) le_R _), HA.out, HY.out⟩ (fun hHeld2 => ?_); (clear hHeld; rename _ => hHeld; clear hK K; have hHeld : (fun W => Below w.heap.size w W ∧ Bk4 W GA x0 y0 x1 y1 ∧ Bk4 W GY b0 b1 b2 b3) _ := hHeld); (try simp only [Act.put, List.getElem_toArray, List.getElem_cons_succ, List.getElem_cons_zero, List.setIfInBounds_toArray, List.set_cons_zero, List.set_cons_succ])
          obtain ⟨ywr54x1, hwx⟩ : ∃ wx, (((ywr54x0.setCell ⟨GR, 0, none⟩ (.int .i64 x0)).setCell ⟨GR, 1, none⟩ (.int .i64 y0)).setCell ⟨GR, 2, none⟩ (.int .i64 x1)).setCell ⟨GR, 3, none⟩ (.int .i64 y1) = wx := ⟨_, rfl⟩; rw [hwx] at HR HQ HA HY hHeld ⊢; clear hwx
          refine wpAnyH_ready (rs := [4]) (by kernel_rfl) (by simp) ?_; refine AllReadyH.cons rfl (fun K hK => ?_) AllReadyH.nil
          obtain ⟨⟨a0, a1, a2, a3⟩, ⟨f0, f1, f2, f3⟩, az⟩ := HQ.out; go_simp; clear a0 f0 a1 f1 a2 f2 a3 f3 az
          have HR := Lib.hid ((((HR.out.far ⟨GQ, 0, none⟩ (.int .i64 u0) (by show GR ≠ GQ; exact ne_R_Q)).far ⟨GQ, 1, none⟩ (.int .i64 v0) (by show GR ≠ GQ; exact ne_R_Q)).far ⟨GQ, 2, none⟩ (.int .i64 u1) (by show GR ≠ GQ; exact ne_R_Q)).far ⟨GQ, 3, none⟩ (.int .i64 v1) (by show GR ≠ GQ; exact ne_R_Q))
          have HA := Lib.hid ((((HA.out.far ⟨GQ, 0, none⟩ (.int .i64 u0) (by show GA ≠ GQ; exact ne_A_Q)).far ⟨GQ, 1, none⟩ (.int .i64 v0) (by show GA ≠ GQ; exact ne_A_Q)).far ⟨GQ, 2, none⟩ (.int .i64 u1) (by show GA ≠ GQ; exact ne_A_Q)).far ⟨GQ, 3, none⟩ (.int .i64 v1) (by show GA ≠ GQ; exact ne_A_Q))
          have HY := Lib.hid ((((HY.out.far ⟨GQ, 0, none⟩ (.int .i64 u0) (by show GY ≠ GQ; exact ne_Y_Q)).far ⟨GQ, 1, none⟩ (.int .i64 v0) (by show GY ≠ GQ; exact ne_Y_Q)).far ⟨GQ, 2, none⟩ (.int .i64 u1) (by show GY ≠ GQ; exact ne_Y_Q)).far ⟨GQ, 3, none⟩ (.int .i64 v1) (by show GY ≠ GQ; exact ne_Y_Q))
          have HQ := Lib.hid ((((HQ.out.set0 u0).set1 v0).set2 u1).set3 v1)
          refine hK.out _ _ ⟨(Below.setCell (Below.setCell (Below.setCell (Below.setCell hHeld.1 (p := ⟨GQ, 0, none⟩) le_Q _) (p := ⟨GQ, 1, none⟩) le_Q _) (p := ⟨GQ, 2, none⟩) le_Q _) (p := ⟨GQ, 3, none⟩) le_Q _), HA.out, HY.out⟩ (fun hHeld2 => ?_); (clear hHeld; rename _ => hHeld; clear hK K; have hHeld : (fun W => Below w.heap.size w W ∧ Bk4 W GA x0 y0 x1 y1 ∧ Bk4 W GY b0 b1 b2 b3) _ := hHeld); (try simp only [Act.put, List.getElem_toArray, List.getElem_cons_succ, List.getElem_cons_zero, List.setIfInBounds_toArray, List.set_cons_zero, List.set_cons_succ])
          obtain ⟨ywr54x2, hwx⟩ : ∃ wx, (((ywr54x1.setCell ⟨GQ, 0, none⟩ (.int .i64 u0)).setCell ⟨GQ, 1, none⟩ (.int .i64 v0)).setCell ⟨GQ, 2, none⟩ (.int .i64 u1)).setCell ⟨GQ, 3, none⟩ (.int .i64 v1) = wx := ⟨_, rfl⟩; rw [hwx] at HR HQ HA HY hHeld ⊢; clear hwx
          refine wpAnyH_done (by kernel_rfl) ?_ _
          have HB := Lib.hid (hHeld.1)
          clear hHeld
          obtain ⟨⟨qR0, qR1, qR2, qR3⟩, ⟨fR0, fR1, fR2, fR3⟩, zR⟩ := HR.out
          obtain ⟨⟨qQ0, qQ1, qQ2, qQ3⟩, ⟨fQ0, fQ1, fQ2, fQ3⟩, zQ⟩ := HQ.out
          obtain ⟨⟨qA0, qA1, qA2, qA3⟩, ⟨fA0, fA1, fA2, fA3⟩, zA⟩ := HA.out
          obtain ⟨⟨qY0, qY1, qY2, qY3⟩, ⟨fY0, fY1, fY2, fY3⟩, zY⟩ := HY.out
          go_wp2_with fail
          refine bodyPost_ret (v := .tuple #[.agg #[.int .i64 x0, .int .i64 y0, .int .i64 x1, .int .i64 y1], .agg #[.int .i64 u0, .int .i64 v0, .int .i64 u1, .int .i64 v1]]) (by simp (maxDischargeDepth := 8) [results, Try.results53, go_sem, *]) rfl ?_
          have hb := HB.out
          exact ⟨x0, y0, x1, y1, u0, v0, u1, v1, rfl, hb⟩
    · skip
      go_simp; obtain ⟨GY, hGY⟩ : ∃ G, wD4.heap.size = G := ⟨_, rfl⟩; have le_Y : w.heap.size ≤ GY := by rw [← hGY]; exact Below.size hHeld.1
      have ne_Y_R : GY ≠ GR := by have := HR.out.2.2; omega
      have ne_R_Y : GR ≠ GY := Ne.symm ne_Y_R
      have ne_Y_Q : GY ≠ GQ := by have := HQ.out.2.2; omega
      have ne_Q_Y : GQ ≠ GY := Ne.symm ne_Y_Q
      have ne_Y_A : GY ≠ GA := by have := HA.out.2.2; omega
      have ne_A_Y : GA ≠ GY := Ne.symm ne_Y_A
      have lt_s_Y : sG < GY := by have := HSR.out.lt; omega
      have ne_Y_s : GY ≠ sG := by omega
      have HR := Lib.hid (HR.out.below ((Below.refl _ _).alloc (Nat.le_refl _) (.cells #[.int .i64 0, .int .i64 0, .int .i64 0, .int .i64 0] 52))); have HQ := Lib.hid (HQ.out.below ((Below.refl _ _).alloc (Nat.le_refl _) (.cells #[.int .i64 0, .int .i64 0, .int .i64 0, .int .i64 0] 52))); have HA := Lib.hid (HA.out.below ((Below.refl _ _).alloc (Nat.le_refl _) (.cells #[.int .i64 0, .int .i64 0, .int .i64 0, .int .i64 0] 52))); have HSR := Lib.hid (HSR.out.below ((Below.refl _ _).alloc (Nat.le_refl _) (.cells #[.int .i64 0, .int .i64 0, .int .i64 0, .int .i64 0] 52))); skip
      have HY : Hid (Bk4 (wD4.alloc (.cells #[.int .i64 0, .int .i64 0, .int .i64 0, .int .i64 0] 52)) GY 0 0 0 0) := by rw [← hGY]; exact bk4_new wD4 0 0 0 0 _
      refine hK.out _ _ ⟨Below.alloc hHeld.1 (Below.size hHeld.1) _, HR.out, HQ.out, HA.out⟩ (fun hHeld2 => ?_); (clear hHeld; rename _ => hHeld; clear hK K; have hHeld : (fun W => Below w.heap.size w W ∧ Bk4 W GR 0 0 0 0 ∧ Bk4 W GQ 0 0 0 0 ∧ Bk4 W GA x0 y0 x1 y1) _ := hHeld); (try simp only [Act.put, List.getElem_toArray, List.getElem_cons_succ, List.getElem_cons_zero, List.setIfInBounds_toArray, List.set_cons_zero, List.set_cons_succ])
      rw [hGY]; clear hGY; obtain ⟨ywr4x0, hwx⟩ : ∃ wx, wD4.alloc (.cells #[.int .i64 0, .int .i64 0, .int .i64 0, .int .i64 0] 52) = wx := ⟨_, rfl⟩; rw [hwx] at HR HQ HA HSR HY hHeld ⊢; clear hwx
      refine wpAnyH_ready (rs := [1]) (by kernel_rfl) (by simp) ?_; refine AllReadyH.cons rfl (fun K hK => ?_) AllReadyH.nil
      go_simp; (go_at_call 109; refine (l01DrawUnit_any _ a n cap _ HSR.out).mono ?_; rintro en ywr4x1 ⟨p, q, r, t, rfl, hg, hs⟩)
      have HR := Lib.hid (HR.out.grows hg (by intro hh; injection hh with hh; exact ne_R_s hh.symm))
      have HQ := Lib.hid (HQ.out.grows hg (by intro hh; injection hh with hh; exact ne_Q_s hh.symm))
      have HA := Lib.hid (HA.out.grows hg (by intro hh; injection hh with hh; exact ne_A_s hh.symm))
      have HY := Lib.hid (HY.out.grows hg (by intro hh; injection hh with hh; exact ne_Y_s hh.symm))
      have hBn := Below.grown hHeld.1 hg (Below.size hHeld.1) (fun k hk => by injection hk with hk; omega)
      have HSR := Lib.hid hs
      clear hg hs
      refine hK.out _ _ ⟨hBn, HR.out, HQ.out, HA.out⟩ (fun hHeld2 => ?_); clear hBn; (clear hHeld; rename _ => hHeld; clear hK K; have hHeld : (fun W => Below w.heap.size w W ∧ Bk4 W GR 0 0 0 0 ∧ Bk4 W GQ 0 0 0 0 ∧ Bk4 W GA x0 y0 x1 y1) _ := hHeld); (try simp only [Act.put, List.getElem_toArray, List.getElem_cons_succ, List.getElem_cons_zero, List.setIfInBounds_toArray, List.set_cons_zero, List.set_cons_succ])
      refine wpAnyH_ready (rs := [3]) (by kernel_rfl) (by simp) ?_; refine AllReadyH.cons rfl (fun K hK => ?_) AllReadyH.nil
      go_simp; (go_at_call 39; refine (CM.out _ _ _ _ _).mono ?_; rintro en ywr4x2 ⟨b0, b1, b2, b3, c, rfl, hb2⟩); have HR := Lib.hid (HR.out.below hb2); have HQ := Lib.hid (HQ.out.below hb2); have HA := Lib.hid (HA.out.below hb2); have HY := Lib.hid (HY.out.below hb2); have HSR := Lib.hid (HSR.out.below hb2); refine hK.out _ _ ⟨below_after hb2 hHeld.1, HR.out, HQ.out, HA.out⟩ (fun hHeld2 => ?_); clear hb2; (clear hHeld; rename _ => hHeld; clear hK K; have hHeld : (fun W => Below w.heap.size w W ∧ Bk4 W GR 0 0 0 0 ∧ Bk4 W GQ 0 0 0 0 ∧ Bk4 W GA x0 y0 x1 y1) _ := hHeld); (try simp only [Act.put, List.getElem_toArray, List.getElem_cons_succ, List.getElem_cons_zero, List.setIfInBounds_toArray, List.set_cons_zero, List.set_cons_succ])
      (refine wpAnyH_take (i := 4) (v := ?_) rfl (by kernel_rfl) (by kernel_rfl) (by kernel_rfl) (fun _ _ _ h => h) (Or.inl ⟨rfl, ?_⟩) (by assumption) ?_; rotate_left; focus (intro W hSw; (try dsimp only at hSw); obtain ⟨hSb, hxR, hxQ, hxA⟩ := hSw; obtain ⟨⟨iR0, iR1, iR2, iR3⟩, _, _⟩ := hxR; obtain ⟨⟨iQ0, iQ1, iQ2, iQ3⟩, _, _⟩ := hxQ; obtain ⟨⟨iA0, iA1, iA2, iA3⟩, _, _⟩ := hxA; go_simp; try (with_reducible rfl))); (try simp only [Act.put, List.getElem_toArray, List.getElem_cons_succ, List.getElem_cons_zero, List.setIfInBounds_toArray, List.set_cons_zero, List.set_cons_succ])
      (refine wpAnyH_take (i := 5) (v := ?_) rfl (by kernel_rfl) (by kernel_rfl) (by kernel_rfl) (fun _ _ _ h => h) (Or.inl ⟨rfl, ?_⟩) (by assumption) ?_; rotate_left; focus (intro W hSw; (try dsimp only at hSw); obtain ⟨hSb, hxR, hxQ, hxA⟩ := hSw; obtain ⟨⟨iR0, iR1, iR2, iR3⟩, _, _⟩ := hxR; obtain ⟨⟨iQ0, iQ1, iQ2, iQ3⟩, _, _⟩ := hxQ; obtain ⟨⟨iA0, iA1, iA2, iA3⟩, _, _⟩ := hxA; go_simp; try (with_reducible rfl))); (try simp only [Act.put, List.getElem_toArray, List.getElem_cons_succ, List.getElem_cons_zero, List.setIfInBounds_toArray, List.set_cons_zero, List.set_cons_succ])
      (refine wpAnyH_take (i := 6) (v := ?_) rfl (by kernel_rfl) (by kernel_rfl) (by kernel_rfl) (fun _ _ _ h => h) (Or.inl ⟨rfl, ?_⟩) (by assumption) ?_; rotate_left; focus (intro W hSw; (try dsimp only at hSw); obtain ⟨hSb, hxR, hxQ, hxA⟩ := hSw; obtain ⟨⟨iR0, iR1, iR2, iR3⟩, _, _⟩ := hxR; obtain ⟨⟨iQ0, iQ1, iQ2, iQ3⟩, _, _⟩ := hxQ; obtain ⟨⟨iA0, iA1, iA2, iA3⟩, _, _⟩ := hxA; go_simp; try (with_reducible rfl))); (try simp only [Act.put, List.getElem_toArray, List.getElem_cons_succ, List.getElem_cons_zero, List.setIfInBounds_toArray, List.set_cons_zero, List.set_cons_succ])
      refine wpAnyH_ready (rs := [8]) (by kernel_rfl) (by simp) ?_; refine AllReadyH.cons rfl (fun K hK => ?_) AllReadyH.nil
      obtain ⟨⟨a0, a1, a2, a3⟩, ⟨f0, f1, f2, f3⟩, az⟩ := HY.out; go_simp; clear a0 f0 a1 f1 a2 f2 a3 f3 az
      have HR := Lib.hid ((((HR.out.far ⟨GY, 0, none⟩ (.int .i64 b0) (by show GR ≠ GY; exact ne_R_Y)).far ⟨GY, 1, none⟩ (.int .i64 b1) (by show GR ≠ GY; exact ne_R_Y)).far ⟨GY, 2, none⟩ (.int .i64 b2) (by show GR ≠ GY; exact ne_R_Y)).far ⟨GY, 3, none⟩ (.int .i64 b3) (by show GR ≠ GY; exact ne_R_Y))
      have HQ := Lib.hid ((((HQ.out.far ⟨GY, 0, none⟩ (.int .i64 b0) (by show GQ ≠ GY; exact ne_Q_Y)).far ⟨GY, 1, none⟩ (.int .i64 b1) (by show GQ ≠ GY; exact ne_Q_Y)).far ⟨GY, 2, none⟩ (.int .i64 b2) (by show GQ ≠ GY; exact ne_Q_Y)).far ⟨GY, 3, none⟩ (.int .i64 b3) (by show GQ ≠ GY; exact ne_Q_Y))
      have HA := Lib.hid ((((HA.out.far ⟨GY, 0, none⟩ (.int .i64 b0) (by show GA ≠ GY; exact ne_A_Y)).far ⟨GY, 1, none⟩ (.int .i64 b1) (by show GA ≠ GY; exact ne_A_Y)).far ⟨GY, 2, none⟩ (.int .i64 b2) (by show GA ≠ GY; exact ne_A_Y)).far ⟨GY, 3, none⟩ (.int .i64 b3) (by show GA ≠ GY; exact ne_A_Y))
      have HSR := Lib.hid (sr_set (sr_set (sr_set (sr_set HSR.out _ 0 (.int .i64 b0) lt_s_Y) _ 1 (.int .i64 b1) lt_s_Y) _ 2 (.int .i64 b2) lt_s_Y) _ 3 (.int .i64 b3) lt_s_Y)
      have HY := Lib.hid ((((HY.out.set0 b0).set1 b1).set2 b2).set3 b3)
      refine hK.out _ _ ⟨(Below.setCell (Below.setCell (Below.setCell (Below.setCell hHeld.1 (p := ⟨GY, 0, none⟩) le_Y _) (p := ⟨GY, 1, none⟩) le_Y _) (p := ⟨GY, 2, none⟩) le_Y _) (p := ⟨GY, 3, none⟩) le_Y _), HR.out, HQ.out, HA.out⟩ (fun hHeld2 => ?_); (clear hHeld; rename _ => hHeld; clear hK K; have hHeld : (fun W => Below w.heap.size w W ∧ Bk4 W GR 0 0 0 0 ∧ Bk4 W GQ 0 0 0 0 ∧ Bk4 W GA x0 y0 x1 y1) _ := hHeld); (try simp only [Act.put, List.getElem_toArray, List.getElem_cons_succ, List.getElem_cons_zero, List.setIfInBounds_toArray, List.set_cons_zero, List.set_cons_succ])
      obtain ⟨ywr4x3, hwx⟩ : ∃ wx, (((ywr4x2.setCell ⟨GY, 0, none⟩ (.int .i64 b0)).setCell ⟨GY, 1, none⟩ (.int .i64 b1)).setCell ⟨GY, 2, none⟩ (.int .i64 b2)).setCell ⟨GY, 3, none⟩ (.int .i64 b3) = wx := ⟨_, rfl⟩; rw [hwx] at HR HQ HA HY HSR hHeld ⊢; clear hwx
      (refine wpAnyH_take (i := 9) (v := ?_) rfl (by kernel_rfl) (by kernel_rfl) (by kernel_rfl) (fun _ _ _ h => h) (Or.inl ⟨rfl, ?_⟩) (by assumption) ?_; rotate_left; focus (intro W hSw; (try dsimp only at hSw); obtain ⟨hSb, hxR, hxQ, hxA⟩ := hSw; obtain ⟨⟨iR0, iR1, iR2, iR3⟩, _, _⟩ := hxR; obtain ⟨⟨iQ0, iQ1, iQ2, iQ3⟩, _, _⟩ := hxQ; obtain ⟨⟨iA0, iA1, iA2, iA3⟩, _, _⟩ := hxA; go_simp; try (with_reducible rfl))); (try simp only [Act.put, List.getElem_toArray, List.getElem_cons_succ, List.getElem_cons_zero, List.setIfInBounds_toArray, List.set_cons_zero, List.set_cons_succ])
      refine wpAnyH_done (by kernel_rfl) ?_ _
      have HB := Lib.hid (hHeld.1)
      clear hHeld
      by_cases hc : c = 0
      · subst hc
        clear HSR
        go_wp2_with fail
        refine wp_region_held_drew (S := fun W => Below w.heap.size w W ∧ Bk4 W GA x0 y0 x1 y1 ∧ Bk4 W GY b0 b1 b2 b3) (by kernel_rfl) ?_ (fun hHeld => ?_); focus ((try dsimp only); exact ⟨Below.drew HB.out, HA.out.below (Below.drew (Below.refl _ _)), HY.out.below (Below.drew (Below.refl _ _))⟩)
        have HR := Lib.hid (HR.out.below (Below.drew (Below.refl _ _)))
        have HQ := Lib.hid (HQ.out.below (Below.drew (Below.refl _ _)))
        have HA := Lib.hid (HA.out.below (Below.drew (Below.refl _ _)))
        have HY := Lib.hid (HY.out.below (Below.drew (Below.refl _ _)))
        have hHeld : (fun W => Below w.heap.size w W ∧ Bk4 W GA x0 y0 x1 y1 ∧ Bk4 W GY b0 b1 b2 b3) _ := hHeld
        obtain ⟨wD54, hwD54⟩ : ∃ wD, ywr4x3.drew = wD := ⟨_, rfl⟩
        rw [hwD54] at hHeld HR HQ HA HY ⊢
        clear hwD54
        (refine wpAnyH_take (i := 0) (v := ?_) rfl (by kernel_rfl) (by kernel_rfl) (by kernel_rfl) (fun _ _ _ h => h) (Or.inl ⟨rfl, ?_⟩) (by assumption) ?_; rotate_left; focus (intro W hSw; (try dsimp only at hSw); obtain ⟨hSb, hxA, hxY⟩ := hSw; obtain ⟨⟨iA0, iA1, iA2, iA3⟩, _, _⟩ := hxA; obtain ⟨⟨iY0, iY1, iY2, iY3⟩, _, _⟩ := hxY; go_simp; try (with_reducible rfl))); (try simp only [Act.put, List.getElem_toArray, List.getElem_cons_succ, List.getElem_cons_zero, List.setIfInBounds_toArray, List.set_cons_zero, List.set_cons_succ])
        (refine wpAnyH_take (i := 1) (v := ?_) rfl (by kernel_rfl) (by kernel_rfl) (by kernel_rfl) (fun _ _ _ h => h) (Or.inl ⟨rfl, ?_⟩) (by assumption) ?_; rotate_left; focus (intro W hSw; (try dsimp only at hSw); obtain ⟨hSb, hxA, hxY⟩ := hSw; obtain ⟨⟨iA0, iA1, iA2, iA3⟩, _, _⟩ := hxA; obtain ⟨⟨iY0, iY1, iY2, iY3⟩, _, _⟩ := hxY; go_simp; try (with_reducible rfl))); (try simp only [Act.put, List.getElem_toArray, List.getElem_cons_succ, List.getElem_cons_zero, List.setIfInBounds_toArray, List.set_cons_zero, List.set_cons_succ])
        refine wpAnyH_ready (rs := [2]) (by kernel_rfl) (by simp) ?_; refine AllReadyH.cons rfl (fun K hK => ?_) AllReadyH.nil
        obtain ⟨⟨a0, a1, a2, a3⟩, ⟨f0, f1, f2, f3⟩, az⟩ := HR.out; go_simp; clear a0 f0 a1 f1 a2 f2 a3 f3 az
        have HQ := Lib.hid ((((HQ.out.far ⟨GR, 0, none⟩ (.int .i64 x0) (by show GQ ≠ GR; exact ne_Q_R)).far ⟨GR, 1, none⟩ (.int .i64 y0) (by show GQ ≠ GR; exact ne_Q_R)).far ⟨GR, 2, none⟩ (.int .i64 x1) (by show GQ ≠ GR; exact ne_Q_R)).far ⟨GR, 3, none⟩ (.int .i64 y1) (by show GQ ≠ GR; exact ne_Q_R))
        have HA := Lib.hid ((((HA.out.far ⟨GR, 0, none⟩ (.int .i64 x0) (by show GA ≠ GR; exact ne_A_R)).far ⟨GR, 1, none⟩ (.int .i64 y0) (by show GA ≠ GR; exact ne_A_R)).far ⟨GR, 2, none⟩ (.int .i64 x1) (by show GA ≠ GR; exact ne_A_R)).far ⟨GR, 3, none⟩ (.int .i64 y1) (by show GA ≠ GR; exact ne_A_R))
        have HY := Lib.hid ((((HY.out.far ⟨GR, 0, none⟩ (.int .i64 x0) (by show GY ≠ GR; exact ne_Y_R)).far ⟨GR, 1, none⟩ (.int .i64 y0) (by show GY ≠ GR; exact ne_Y_R)).far ⟨GR, 2, none⟩ (.int .i64 x1) (by show GY ≠ GR; exact ne_Y_R)).far ⟨GR, 3, none⟩ (.int .i64 y1) (by show GY ≠ GR; exact ne_Y_R))
        have HR := Lib.hid ((((HR.out.set0 x0).set1 y0).set2 x1).set3 y1)
        refine hK.out _ _ ⟨(Below.setCell (Below.setCell (Below.setCell (Below.setCell hHeld.1 (p := ⟨GR, 0, none⟩) le_R _) (p := ⟨GR, 1, none⟩) le_R _) (p := ⟨GR, 2, none⟩) le_R _) (p := ⟨GR, 3, none⟩) le_R _), HA.out, HY.out⟩ (fun hHeld2 => ?_); (clear hHeld; rename _ => hHeld; clear hK K; have hHeld : (fun W => Below w.heap.size w W ∧ Bk4 W GA x0 y0 x1 y1 ∧ Bk4 W GY b0 b1 b2 b3) _ := hHeld); (try simp only [Act.put, List.getElem_toArray, List.getElem_cons_succ, List.getElem_cons_zero, List.setIfInBounds_toArray, List.set_cons_zero, List.set_cons_succ])
        obtain ⟨ywr54x0, hwx⟩ : ∃ wx, (((wD54.setCell ⟨GR, 0, none⟩ (.int .i64 x0)).setCell ⟨GR, 1, none⟩ (.int .i64 y0)).setCell ⟨GR, 2, none⟩ (.int .i64 x1)).setCell ⟨GR, 3, none⟩ (.int .i64 y1) = wx := ⟨_, rfl⟩; rw [hwx] at HR HQ HA HY hHeld ⊢; clear hwx
        refine wpAnyH_ready (rs := [3]) (by kernel_rfl) (by simp) ?_; refine AllReadyH.cons rfl (fun K hK => ?_) AllReadyH.nil
        obtain ⟨⟨a0, a1, a2, a3⟩, ⟨f0, f1, f2, f3⟩, az⟩ := HQ.out; go_simp; clear a0 f0 a1 f1 a2 f2 a3 f3 az
        have HR := Lib.hid ((((HR.out.far ⟨GQ, 0, none⟩ (.int .i64 b0) (by show GR ≠ GQ; exact ne_R_Q)).far ⟨GQ, 1, none⟩ (.int .i64 b1) (by show GR ≠ GQ; exact ne_R_Q)).far ⟨GQ, 2, none⟩ (.int .i64 b2) (by show GR ≠ GQ; exact ne_R_Q)).far ⟨GQ, 3, none⟩ (.int .i64 b3) (by show GR ≠ GQ; exact ne_R_Q))
        have HA := Lib.hid ((((HA.out.far ⟨GQ, 0, none⟩ (.int .i64 b0) (by show GA ≠ GQ; exact ne_A_Q)).far ⟨GQ, 1, none⟩ (.int .i64 b1) (by show GA ≠ GQ; exact ne_A_Q)).far ⟨GQ, 2, none⟩ (.int .i64 b2) (by show GA ≠ GQ; exact ne_A_Q)).far ⟨GQ, 3, none⟩ (.int .i64 b3) (by show GA ≠ GQ; exact ne_A_Q))
        have HY := Lib.hid ((((HY.out.far ⟨GQ, 0, none⟩ (.int .i64 b0) (by show GY ≠ GQ; exact ne_Y_Q)).far ⟨GQ, 1, none⟩ (.int .i64 b1) (by show GY ≠ GQ; exact ne_Y_Q)).far ⟨GQ, 2, none⟩ (.int .i64 b2) (by show GY ≠ GQ; exact ne_Y_Q)).far ⟨GQ, 3, none⟩ (.int .i64 b3) (by show GY ≠ GQ; exact ne_Y_Q))
        have HQ := Lib.hid ((((HQ.out.set0 b0).set1 b1).set2 b2).set3 b3)
        refine hK.out _ _ ⟨(Below.setCell (Below.setCell (Below.setCell (Below.setCell hHeld.1 (p := ⟨GQ, 0, none⟩) le_Q _) (p := ⟨GQ, 1, none⟩) le_Q _) (p := ⟨GQ, 2, none⟩) le_Q _) (p := ⟨GQ, 3, none⟩) le_Q _), HA.out, HY.out⟩ (fun hHeld2 => ?_); (clear hHeld; rename _ => hHeld; clear hK K; have hHeld : (fun W => Below w.heap.size w W ∧ Bk4 W GA x0 y0 x1 y1 ∧ Bk4 W GY b0 b1 b2 b3) _ := hHeld); (try simp only [Act.put, List.getElem_toArray, List.getElem_cons_succ, List.getElem_cons_zero, List.setIfInBounds_toArray, List.set_cons_zero, List.set_cons_succ])
        obtain ⟨ywr54x1, hwx⟩ : ∃ wx, (((ywr54x0.setCell ⟨GQ, 0, none⟩ (.int .i64 b0)).setCell ⟨GQ, 1, none⟩ (.int .i64 b1)).setCell ⟨GQ, 2, none⟩ (.int .i64 b2)).setCell ⟨GQ, 3, none⟩ (.int .i64 b3) = wx := ⟨_, rfl⟩; rw [hwx] at HR HQ HA HY hHeld ⊢; clear hwx
        refine wpAnyH_done (by kernel_rfl) ?_ _
        have HB := Lib.hid (hHeld.1)
        clear hHeld
        obtain ⟨⟨qR0, qR1, qR2, qR3⟩, ⟨fR0, fR1, fR2, fR3⟩, zR⟩ := HR.out
        obtain ⟨⟨qQ0, qQ1, qQ2, qQ3⟩, ⟨fQ0, fQ1, fQ2, fQ3⟩, zQ⟩ := HQ.out
        obtain ⟨⟨qA0, qA1, qA2, qA3⟩, ⟨fA0, fA1, fA2, fA3⟩, zA⟩ := HA.out
        obtain ⟨⟨qY0, qY1, qY2, qY3⟩, ⟨fY0, fY1, fY2, fY3⟩, zY⟩ := HY.out
        go_wp2_with fail
        refine bodyPost_ret (v := .tuple #[.agg #[.int .i64 x0, .int .i64 y0, .int .i64 x1, .int .i64 y1], .agg #[.int .i64 b0, .int .i64 b1, .int .i64 b2, .int .i64 b3]]) (by simp (maxDischargeDepth := 8) [results, Try.results53, go_sem, *]) rfl ?_
        have hb := HB.out
        exact ⟨x0, y0, x1, y1, b0, b1, b2, b3, rfl, hb⟩
      · skip
        have hne : (c == 0) = false := by simp [hc]
        go_wp2_with fail
        refine wp_region_held_drew (S := fun W => Below w.heap.size w W ∧ Bk4 W GA x0 y0 x1 y1 ∧ Bk4 W GY b0 b1 b2 b3) (by kernel_rfl) ?_ (fun hHeld => ?_); focus ((try dsimp only); exact ⟨Below.drew HB.out, HA.out.below (Below.drew (Below.refl _ _)), HY.out.below (Below.drew (Below.refl _ _))⟩)
        have HR := Lib.hid (HR.out.below (Below.drew (Below.refl _ _)))
        have HQ := Lib.hid (HQ.out.below (Below.drew (Below.refl _ _)))
        have HA := Lib.hid (HA.out.below (Below.drew (Below.refl _ _)))
        have HY := Lib.hid (HY.out.below (Below.drew (Below.refl _ _)))
        have HSR := Lib.hid (HSR.out.below (Below.drew (Below.refl _ _)))
        have hHeld : (fun W => Below w.heap.size w W ∧ Bk4 W GA x0 y0 x1 y1 ∧ Bk4 W GY b0 b1 b2 b3) _ := hHeld
        obtain ⟨wD54, hwD54⟩ : ∃ wD, ywr4x3.drew = wD := ⟨_, rfl⟩
        rw [hwD54] at hHeld HR HQ HA HY HSR ⊢
        clear hwD54
        (refine wpAnyH_take (i := 0) (v := ?_) rfl (by kernel_rfl) (by kernel_rfl) (by kernel_rfl) (fun _ _ _ h => h) (Or.inl ⟨rfl, ?_⟩) (by assumption) ?_; rotate_left; focus (intro W hSw; (try dsimp only at hSw); obtain ⟨hSb, hxA, hxY⟩ := hSw; obtain ⟨⟨iA0, iA1, iA2, iA3⟩, _, _⟩ := hxA; obtain ⟨⟨iY0, iY1, iY2, iY3⟩, _, _⟩ := hxY; go_simp; try (with_reducible rfl))); (try simp only [Act.put, List.getElem_toArray, List.getElem_cons_succ, List.getElem_cons_zero, List.setIfInBounds_toArray, List.set_cons_zero, List.set_cons_succ])
        (refine wpAnyH_take (i := 1) (v := ?_) rfl (by kernel_rfl) (by kernel_rfl) (by kernel_rfl) (fun _ _ _ h => h) (Or.inl ⟨rfl, ?_⟩) (by assumption) ?_; rotate_left; focus (intro W hSw; (try dsimp only at hSw); obtain ⟨hSb, hxA, hxY⟩ := hSw; obtain ⟨⟨iA0, iA1, iA2, iA3⟩, _, _⟩ := hxA; obtain ⟨⟨iY0, iY1, iY2, iY3⟩, _, _⟩ := hxY; go_simp; try (with_reducible rfl))); (try simp only [Act.put, List.getElem_toArray, List.getElem_cons_succ, List.getElem_cons_zero, List.setIfInBounds_toArray, List.set_cons_zero, List.set_cons_succ])
        refine wpAnyH_ready (rs := [2]) (by kernel_rfl) (by simp) ?_; refine AllReadyH.cons rfl (fun K hK => ?_) AllReadyH.nil
        go_simp; (go_at_call 110; refine (l02Spoil_any _ a n cap _ HSR.out).mono ?_; rintro en ywr54x0 ⟨u0, v0, u1, v1, rfl, hg, hs⟩)
        have HR := Lib.hid (HR.out.grows hg (by intro hh; injection hh with hh; exact ne_R_s hh.symm))
        have HQ := Lib.hid (HQ.out.grows hg (by intro hh; injection hh with hh; exact ne_Q_s hh.symm))
        have HA := Lib.hid (HA.out.grows hg (by intro hh; injection hh with hh; exact ne_A_s hh.symm))
        have HY := Lib.hid (HY.out.grows hg (by intro hh; injection hh with hh; exact ne_Y_s hh.symm))
        have hBn := Below.grown hHeld.1 hg (Below.size hHeld.1) (fun k hk => by injection hk with hk; omega)
        have HSR := Lib.hid hs
        clear hg hs
        refine hK.out _ _ ⟨hBn, HA.out, HY.out⟩ (fun hHeld2 => ?_); clear hBn; (clear hHeld; rename _ => hHeld; clear hK K; have hHeld : (fun W => Below w.heap.size w W ∧ Bk4 W GA x0 y0 x1 y1 ∧ Bk4 W GY b0 b1 b2 b3) _ := hHeld); (try simp only [Act.put, List.getElem_toArray, List.getElem_cons_succ, List.getElem_cons_zero, List.setIfInBounds_toArray, List.set_cons_zero, List.set_cons_succ])
        refine wpAnyH_ready (rs := [3]) (by kernel_rfl) (by simp) ?_; refine AllReadyH.cons rfl (fun K hK => ?_) AllReadyH.nil
        clear HSR
        obtain ⟨⟨a0, a1, a2, a3⟩, ⟨f0, f1, f2, f3⟩, az⟩ := HR.out; go_simp; clear a0 f0 a1 f1 a2 f2 a3 f3 az
        have HQ := Lib.hid ((((HQ.out.far ⟨GR, 0, none⟩ (.int .i64 x0) (by show GQ ≠ GR; exact ne_Q_R)).far ⟨GR, 1, none⟩ (.int .i64 y0) (by show GQ ≠ GR; exact ne_Q_R)).far ⟨GR, 2, none⟩ (.int .i64 x1) (by show GQ ≠ GR; exact ne_Q_R)).far ⟨GR, 3, none⟩ (.int .i64 y1) (by show GQ ≠ GR; exact ne_Q_R))
        have HA := Lib.hid ((((HA.out.far ⟨GR, 0, none⟩ (.int .i64 x0) (by show GA ≠ GR; exact ne_A_R)).far ⟨GR, 1, none⟩ (.int .i64 y0) (by show GA ≠ GR; exact ne_A_R)).far ⟨GR, 2, none⟩ (.int .i64 x1) (by show GA ≠ GR; exact ne_A_R)).far ⟨GR, 3, none⟩ (.int .i64 y1) (by show GA ≠ GR; exact ne_A_R))
        have HY := Lib.hid ((((HY.out.far ⟨GR, 0, none⟩ (.int .i64 x0) (by show GY ≠ GR; exact ne_Y_R)).far ⟨GR, 1, none⟩ (.int .i64 y0) (by show GY ≠ GR; exact ne_Y_R)).far ⟨GR, 2, none⟩ (.int .i64 x1) (by show GY ≠ GR; exact ne_Y_R)).far ⟨GR, 3, none⟩ (.int .i64 y1) (by show GY ≠ GR; exact ne_Y_R))
        have HR := Lib.hid ((((HR.out.set0 x0).set1 y0).set2 x1).set3 y1)
        refine hK.out _ _ ⟨(Below.setCell (Below.setCell (Below.setCell (Below.setCell hHeld.1 (p := ⟨GR, 0, none⟩) le_R _) (p := ⟨GR, 1, none⟩) le_R _) (p := ⟨GR, 2, none⟩) le_R _) (p := ⟨GR, 3, none⟩) le_R _), HA.out, HY.out⟩ (fun hHeld2 => ?_); (clear hHeld; rename _ => hHeld; clear hK K; have hHeld : (fun W => Below w.heap.size w W ∧ Bk4 W GA x0 y0 x1 y1 ∧ Bk4 W GY b0 b1 b2 b3) _ := hHeld); (try simp only [Act.put, List.getElem_toArray, List.getElem_cons_succ, List.getElem_cons_zero, List.setIfInBounds_toArray, List.set_cons_zero, List.set_cons_succ])
        obtain ⟨ywr54x1, hwx⟩ : ∃ wx, (((ywr54x0.setCell ⟨GR, 0, none⟩ (.int .i64 x0)).setCell ⟨GR, 1, none⟩ (.int .i64 y0)).setCell ⟨GR, 2, none⟩ (.int .i64 x1)).setCell ⟨GR, 3, none⟩ (.int .i64 y1) = wx := ⟨_, rfl⟩; rw [hwx] at HR HQ HA HY hHeld ⊢; clear hwx
        refine wpAnyH_ready (rs := [4]) (by kernel_rfl) (by simp) ?_; refine AllReadyH.cons rfl (fun K hK => ?_) AllReadyH.nil
        obtain ⟨⟨a0, a1, a2, a3⟩, ⟨f0, f1, f2, f3⟩, az⟩ := HQ.out; go_simp; clear a0 f0 a1 f1 a2 f2 a3 f3 az
        have HR := Lib.hid ((((HR.out.far ⟨GQ, 0, none⟩ (.int .i64 u0) (by show GR ≠ GQ; exact ne_R_Q)).far ⟨GQ, 1, none⟩ (.int .i64 v0) (by show GR ≠ GQ; exact ne_R_Q)).far ⟨GQ, 2, none⟩ (.int .i64 u1) (by show GR ≠ GQ; exact ne_R_Q)).far ⟨GQ, 3, none⟩ (.int .i64 v1) (by show GR ≠ GQ; exact ne_R_Q))
        have HA := Lib.hid ((((HA.out.far ⟨GQ, 0, none⟩ (.int .i64 u0) (by show GA ≠ GQ; exact ne_A_Q)).far ⟨GQ, 1, none⟩ (.int .i64 v0) (by show GA ≠ GQ; exact ne_A_Q)).far ⟨GQ, 2, none⟩ (.int .i64 u1) (by show GA ≠ GQ; exact ne_A_Q)).far ⟨GQ, 3, none⟩ (.int .i64 v1) (by show GA ≠ GQ; exact ne_A_Q))
        have HY := Lib.hid ((((HY.out.far ⟨GQ, 0, none⟩ (.int .i64 u0) (by show GY ≠ GQ; exact ne_Y_Q)).far ⟨GQ, 1, none⟩ (.int .i64 v0) (by show GY ≠ GQ; exact ne_Y_Q)).far ⟨GQ, 2, none⟩ (.int .i64 u1) (by show GY ≠ GQ; exact ne_Y_Q)).far ⟨GQ, 3, none⟩ (.int .i64 v1) (by show GY ≠ GQ; exact ne_Y_Q))
        have HQ := Lib.hid ((((HQ.out.set0 u0).set1 v0).set2 u1).set3 v1)
        refine hK.out _ _ ⟨(Below.setCell (Below.setCell (Below.setCell (Below.setCell hHeld.1 (p := ⟨GQ, 0, none⟩) le_Q _) (p := ⟨GQ, 1, none⟩) le_Q _) (p := ⟨GQ, 2, none⟩) le_Q _) (p := ⟨GQ, 3, none⟩) le_Q _), HA.out, HY.out⟩ (fun hHeld2 => ?_); (clear hHeld; rename _ => hHeld; clear hK K; have hHeld : (fun W => Below w.heap.size w W ∧ Bk4 W GA x0 y0 x1 y1 ∧ Bk4 W GY b0 b1 b2 b3) _ := hHeld); (try simp only [Act.put, List.getElem_toArray, List.getElem_cons_succ, List.getElem_cons_zero, List.setIfInBounds_toArray, List.set_cons_zero, List.set_cons_succ])
        obtain ⟨ywr54x2, hwx⟩ : ∃ wx, (((ywr54x1.setCell ⟨GQ, 0, none⟩ (.int .i64 u0)).setCell ⟨GQ, 1, none⟩ (.int .i64 v0)).setCell ⟨GQ, 2, none⟩ (.int .i64 u1)).setCell ⟨GQ, 3, none⟩ (.int .i64 v1) = wx := ⟨_, rfl⟩; rw [hwx] at HR HQ HA HY hHeld ⊢; clear hwx
        refine wpAnyH_done (by kernel_rfl) ?_ _
        have HB := Lib.hid (hHeld.1)
        clear hHeld
        obtain ⟨⟨qR0, qR1, qR2, qR3⟩, ⟨fR0, fR1, fR2, fR3⟩, zR⟩ := HR.out
        obtain ⟨⟨qQ0, qQ1, qQ2, qQ3⟩, ⟨fQ0, fQ1, fQ2, fQ3⟩, zQ⟩ := HQ.out
        obtain ⟨⟨qA0, qA1, qA2, qA3⟩, ⟨fA0, fA1, fA2, fA3⟩, zA⟩ := HA.out
        obtain ⟨⟨qY0, qY1, qY2, qY3⟩, ⟨fY0, fY1, fY2, fY3⟩, zY⟩ := HY.out
        go_wp2_with fail
        refine bodyPost_ret (v := .tuple #[.agg #[.int .i64 x0, .int .i64 y0, .int .i64 x1, .int .i64 y1], .agg #[.int .i64 u0, .int .i64 v0, .int .i64 u1, .int .i64 v1]]) (by simp (maxDischargeDepth := 8) [results, Try.results53, go_sem, *]) rfl ?_
        have hb := HB.out
        exact ⟨x0, y0, x1, y1, u0, v0, u1, v1, rfl, hb⟩
  · skip
    go_wp2_with fail
    refine wp_region_held_drew (S := fun W => Below w.heap.size w W ∧ Bk4 W GA x0 y0 x1 y1) (by kernel_rfl) ?_ (fun hHeld => ?_); focus ((try dsimp only); exact ⟨Below.drew HB.out, HA.out.below (Below.drew (Below.refl _ _))⟩)
    have HR := Lib.hid (HR.out.below (Below.drew (Below.refl _ _)))
    have HQ := Lib.hid (HQ.out.below (Below.drew (Below.refl _ _)))
    have HA := Lib.hid (HA.out.below (Below.drew (Below.refl _ _)))
    have HSR := Lib.hid (HSR.out.below (Below.drew (Below.refl _ _)))
    have hHeld : (fun W => Below w.heap.size w W ∧ Bk4 W GA x0 y0 x1 y1) _ := hHeld
    obtain ⟨wD4, hwD4⟩ : ∃ wD, w4.drew = wD := ⟨_, rfl⟩
    rw [hwD4] at hHeld HR HQ HA HSR ⊢
    clear hwD4
    (refine wpAnyH_take (i := 0) (v := ?_) rfl (by kernel_rfl) (by kernel_rfl) (by kernel_rfl) (fun _ _ _ h => h) (Or.inl ⟨rfl, ?_⟩) (by assumption) ?_; rotate_left; focus (intro W hSw; (try dsimp only at hSw); obtain ⟨hSb, hxA⟩ := hSw; obtain ⟨⟨iA0, iA1, iA2, iA3⟩, _, _⟩ := hxA; go_simp; try (with_reducible rfl))); (try simp only [Act.put, List.getElem_toArray, List.getElem_cons_succ, List.getElem_cons_zero, List.setIfInBounds_toArray, List.set_cons_zero, List.set_cons_succ])
    (refine wpAnyH_take (i := 1) (v := ?_) rfl (by kernel_rfl) (by kernel_rfl) (by kernel_rfl) (fun _ _ _ h => h) (Or.inl ⟨rfl, ?_⟩) (by assumption) ?_; rotate_left; focus (intro W hSw; (try dsimp only at hSw); obtain ⟨hSb, hxA⟩ := hSw; obtain ⟨⟨iA0, iA1, iA2, iA3⟩, _, _⟩ := hxA; go_simp; try (with_reducible rfl))); (try simp only [Act.put, List.getElem_toArray, List.getElem_cons_succ, List.getElem_cons_zero, List.setIfInBounds_toArray, List.set_cons_zero, List.set_cons_succ])
    refine wpAnyH_ready (rs := [2]) (by kernel_rfl) (by simp) ?_; refine AllReadyH.cons rfl (fun K hK => ?_) AllReadyH.nil
    go_simp; (go_at_call 110; refine (l02Spoil_any _ a n cap _ HSR.out).mono ?_; rintro en ywr4x0 ⟨u0, v0, u1, v1, rfl, hg, hs⟩)
    have HR := Lib.hid (HR.out.grows hg (by intro hh; injection hh with hh; exact ne_R_s hh.symm))
    have HQ := Lib.hid (HQ.out.grows hg (by intro hh; injection hh with hh; exact ne_Q_s hh.symm))
    have HA := Lib.hid (HA.out.grows hg (by intro hh; injection hh with hh; exact ne_A_s hh.symm))
    have hBn := Below.grown hHeld.1 hg (Below.size hHeld.1) (fun k hk => by injection hk with hk; omega)
    have HSR := Lib.hid hs
    clear hg hs
    refine hK.out _ _ ⟨hBn, HA.out⟩ (fun hHeld2 => ?_); clear hBn; (clear hHeld; rename _ => hHeld; clear hK K; have hHeld : (fun W => Below w.heap.size w W ∧ Bk4 W GA x0 y0 x1 y1) _ := hHeld); (try simp only [Act.put, List.getElem_toArray, List.getElem_cons_succ, List.getElem_cons_zero, List.setIfInBounds_toArray, List.set_cons_zero, List.set_cons_succ])
    refine wpAnyH_ready (rs := [3]) (by kernel_rfl) (by simp) ?_; refine AllReadyH.cons rfl (fun K hK => ?_) AllReadyH.nil
    clear HSR
    obtain ⟨⟨a0, a1, a2, a3⟩, ⟨f0, f1, f2, f3⟩, az⟩ := HR.out; go_simp; clear a0 f0 a1 f1 a2 f2 a3 f3 az
    have HQ := Lib.hid ((((HQ.out.far ⟨GR, 0, none⟩ (.int .i64 x0) (by show GQ ≠ GR; exact ne_Q_R)).far ⟨GR, 1, none⟩ (.int .i64 y0) (by show GQ ≠ GR; exact ne_Q_R)).far ⟨GR, 2, none⟩ (.int .i64 x1) (by show GQ ≠ GR; exact ne_Q_R)).far ⟨GR, 3, none⟩ (.int .i64 y1) (by show GQ ≠ GR; exact ne_Q_R))
    have HA := Lib.hid ((((HA.out.far ⟨GR, 0, none⟩ (.int .i64 x0) (by show GA ≠ GR; exact ne_A_R)).far ⟨GR, 1, none⟩ (.int .i64 y0) (by show GA ≠ GR; exact ne_A_R)).far ⟨GR, 2, none⟩ (.int .i64 x1) (by show GA ≠ GR; exact ne_A_R)).far ⟨GR, 3, none⟩ (.int .i64 y1) (by show GA ≠ GR; exact ne_A_R))
    have HR := Lib.hid ((((HR.out.set0 x0).set1 y0).set2 x1).set3 y1)
    refine hK.out _ _ ⟨(Below.setCell (Below.setCell (Below.setCell (Below.setCell hHeld.1 (p := ⟨GR, 0, none⟩) le_R _) (p := ⟨GR, 1, none⟩) le_R _) (p := ⟨GR, 2, none⟩) le_R _) (p := ⟨GR, 3, none⟩) le_R _), HA.out⟩ (fun hHeld2 => ?_); (clear hHeld; rename _ => hHeld; clear hK K; have hHeld : (fun W => Below w.heap.size w W ∧ Bk4 W GA x0 y0 x1 y1) _ := hHeld); (try simp only [Act.put, List.getElem_toArray, List.getElem_cons_succ, List.getElem_cons_zero, List.setIfInBounds_toArray, List.set_cons_zero, List.set_cons_succ])
    obtain ⟨ywr4x1, hwx⟩ : ∃ wx, (((ywr4x0.setCell ⟨GR, 0, none⟩ (.int .i64 x0)).setCell ⟨GR, 1, none⟩ (.int .i64 y0)).setCell ⟨GR, 2, none⟩ (.int .i64 x1)).setCell ⟨GR, 3, none⟩ (.int .i64 y1) = wx := ⟨_, rfl⟩; rw [hwx] at HR HQ HA hHeld ⊢; clear hwx
    refine wpAnyH_ready (rs := [4]) (by kernel_rfl) (by simp) ?_; refine AllReadyH.cons rfl (fun K hK => ?_) AllReadyH.nil
    obtain ⟨⟨a0, a1, a2, a3⟩, ⟨f0, f1, f2, f3⟩, az⟩ := HQ.out; go_simp; clear a0 f0 a1 f1 a2 f2 a3 f3 az
    have HR := Lib.hid ((((HR.out.far ⟨GQ, 0, none⟩ (.int .i64 u0) (by show GR ≠ GQ; exact ne_R_Q)).far ⟨GQ, 1, none⟩ (.int .i64 v0) (by show GR ≠ GQ; exact ne_R_Q)).far ⟨GQ, 2, none⟩ (.int .i64 u1) (by show GR ≠ GQ; exact ne_R_Q)).far ⟨GQ, 3, none⟩ (.int .i64 v1) (by show GR ≠ GQ; exact ne_R_Q))
    have HA := Lib.hid ((((HA.out.far ⟨GQ, 0, none⟩ (.int .i64 u0) (by show GA ≠ GQ; exact ne_A_Q)).far ⟨GQ, 1, none⟩ (.int .i64 v0) (by show GA ≠ GQ; exact ne_A_Q)).far ⟨GQ, 2, none⟩ (.int .i64 u1) (by show GA ≠ GQ; exact ne_A_Q)).far ⟨GQ, 3, none⟩ (.int .i64 v1) (by show GA ≠ GQ; exact ne_A_Q))
    have HQ := Lib.hid ((((HQ.out.set0 u0).set1 v0).set2 u1).set3 v1)
    refine hK.out _ _ ⟨(Below.setCell (Below.setCell (Below.setCell (Below.setCell hHeld.1 (p := ⟨GQ, 0, none⟩) le_Q _) (p := ⟨GQ, 1, none⟩) le_Q _) (p := ⟨GQ, 2, none⟩) le_Q _) (p := ⟨GQ, 3, none⟩) le_Q _), HA.out⟩ (fun hHeld2 => ?_); (clear hHeld; rename _ => hHeld; clear hK K; have hHeld : (fun W => Below w.heap.size w W ∧ Bk4 W GA x0 y0 x1 y1) _ := hHeld); (try simp only [Act.put, List.getElem_toArray, List.getElem_cons_succ, List.getElem_cons_zero, List.setIfInBounds_toArray, List.set_cons_zero, List.set_cons_succ])
    obtain ⟨ywr4x2, hwx⟩ : ∃ wx, (((ywr4x1.setCell ⟨GQ, 0, none⟩ (.int .i64 u0)).setCell ⟨GQ, 1, none⟩ (.int .i64 v0)).setCell ⟨GQ, 2, none⟩ (.int .i64 u1)).setCell ⟨GQ, 3, none⟩ (.int .i64 v1) = wx := ⟨_, rfl⟩; rw [hwx] at HR HQ HA hHeld ⊢; clear hwx
    refine wpAnyH_done (by kernel_rfl) ?_ _
    have HB := Lib.hid (hHeld.1)
    clear hHeld
    obtain ⟨⟨qR0, qR1, qR2, qR3⟩, ⟨fR0, fR1, fR2, fR3⟩, zR⟩ := HR.out
    obtain ⟨⟨qQ0, qQ1, qQ2, qQ3⟩, ⟨fQ0, fQ1, fQ2, fQ3⟩, zQ⟩ := HQ.out
    obtain ⟨⟨qA0, qA1, qA2, qA3⟩, ⟨fA0, fA1, fA2, fA3⟩, zA⟩ := HA.out
    go_wp2_with fail
    refine bodyPost_ret (v := .tuple #[.agg #[.int .i64 x0, .int .i64 y0, .int .i64 x1, .int .i64 y1], .agg #[.int .i64 u0, .int .i64 v0, .int .i64 u1, .int .i64 v1]]) (by simp (maxDischargeDepth := 8) [results, Try.results53, go_sem, *]) rfl ?_
    have hb := HB.out
    exact ⟨x0, y0, x1, y1, u0, v0, u1, v1, rfl, hb⟩
end Go.Proofs.Ytoenlpkphekbnaa
