/-
  The draw of a matrix and a corner (own work).
-/
import Derived.Test.YtoenlpkphekbnaaCrG
import Derived.Test.YtoenlpkphekbnaaDrw4
namespace Go.Proofs.Ytoenlpkphekbnaa
open Go.ChangeShapes Go.WideShapes Go.ChangeAt Go.RowKit
set_option linter.unusedVariables false
set_option maxRecDepth 100000
set_option linter.unusedSimpArgs false
set_option maxRecDepth 100000

set_option maxHeartbeats 4000000 in
theorem DrawMoveCorner_any (a : Option Addr) (n cap : Nat) (w : World) (hn : n ≤ 9223372036854775807) (hb : Byt w w.heap.size a n) :
    Calls Try.prog 37 #[.slice a n cap] w fun e w' => ∃ p q r t x0 y0 x1 y1 : Int, e = .returned (.tuple #[.agg #[.int .i64 p, .int .i64 q, .int .i64 r, .int .i64 t], .agg #[.int .i64 x0, .int .i64 y0, .int .i64 x1, .int .i64 y1]]) ∧ Below w.heap.size w w' := by
  have CF : Hid (∀ W, Below w.heap.size w W → Calls Try.prog 72 #[.slice a n cap] W fun e w' => ∃ s, e = .returned (.pointer (some ⟨s, 0, none⟩)) ∧ Sr w' s a n cap ∧ (w.heap.size ≤ s ∧ W.heap.size ≤ s) ∧ Below W.heap.size W w') := fun W hW => (l01From_any a n cap W hn (hb.over hW)).mono (by rintro e w' ⟨rfl, h1, h2⟩; exact ⟨_, rfl, h2, ⟨hW.size, Nat.le_refl _⟩, h1⟩)
  clear hb
  obtain ⟨GR, hG⟩ : ∃ G, w.heap.size = G := ⟨_, rfl⟩
  have HG := Lib.hid hG
  go_enter Try.func37, Try.ntmps37
  go_upto_region 1 with fail
  obtain ⟨w0, hw0⟩ : ∃ w0, w0 = ((w.alloc (.cells #[.int .i64 0, .int .i64 0, .int .i64 0, .int .i64 0] 26)).alloc (.cells #[.int .i64 0, .int .i64 0, .int .i64 0, .int .i64 0] 52)) := ⟨_, rfl⟩
  rw [← hw0]
  have HR : Hid (Bk4 w0 GR 0 0 0 0) := by
    have h := (bk4_new w 0 0 0 0 26).below (W' := ((w.alloc (.cells #[.int .i64 0, .int .i64 0, .int .i64 0, .int .i64 0] 26)).alloc (.cells #[.int .i64 0, .int .i64 0, .int .i64 0, .int .i64 0] 52))) (by (repeat' (first | (with_reducible exact Below.refl _ _) | (with_reducible refine Below.alloc ?_ ?_ _) | (with_reducible refine Below.setCell ?_ ?_ _) | (with_reducible refine Below.drew ?_) | (with_reducible refine below_drewN ?_ _) | (with_reducible assumption) | (with_reducible refine below_after (by with_reducible assumption) ?_) | go_size)))
    (try simp only [World.size_alloc] at h)
    rw [hG] at h
    rw [hw0]; exact h
  have HQ : Hid (Bk4 w0 (GR + 1) 0 0 0 0) := by
    have h := (bk4_new (w.alloc (.cells #[.int .i64 0, .int .i64 0, .int .i64 0, .int .i64 0] 26)) 0 0 0 0 52).below (W' := ((w.alloc (.cells #[.int .i64 0, .int .i64 0, .int .i64 0, .int .i64 0] 26)).alloc (.cells #[.int .i64 0, .int .i64 0, .int .i64 0, .int .i64 0] 52))) (by (repeat' (first | (with_reducible exact Below.refl _ _) | (with_reducible refine Below.alloc ?_ ?_ _) | (with_reducible refine Below.setCell ?_ ?_ _) | (with_reducible refine Below.drew ?_) | (with_reducible refine below_drewN ?_ _) | (with_reducible assumption) | (with_reducible refine below_after (by with_reducible assumption) ?_) | go_size)))
    (try simp only [World.size_alloc] at h)
    rw [hG] at h
    rw [hw0]; exact h
  have HB : Hid (Below w.heap.size w w0) := by show Below w.heap.size w w0; rw [hw0]; (repeat' (first | (with_reducible exact Below.refl _ _) | (with_reducible refine Below.alloc ?_ ?_ _) | (with_reducible refine Below.setCell ?_ ?_ _) | (with_reducible refine Below.drew ?_) | (with_reducible refine below_drewN ?_ _) | (with_reducible assumption) | (with_reducible refine below_after (by with_reducible assumption) ?_) | go_size))
  clear hw0
  obtain ⟨GQ, hGQ⟩ : ∃ g, GR + 1 = g := ⟨_, rfl⟩
  rw [hGQ] at HQ ⊢
  have le_R : w.heap.size ≤ GR := by omega
  have le_Q : w.heap.size ≤ GQ := by omega
  have ne_Q_R : GQ ≠ GR := by omega
  have ne_R_Q : GR ≠ GQ := by omega
  clear hGQ
  have zR0 := HR.out.2.2
  have zQ0 := HQ.out.2.2
  obtain ⟨⟨qR0, qR1, qR2, qR3⟩, ⟨fR0, fR1, fR2, fR3⟩, zR⟩ := HR.out
  obtain ⟨⟨qQ0, qQ1, qQ2, qQ3⟩, ⟨fQ0, fQ1, fQ2, fQ3⟩, zQ⟩ := HQ.out
  go_wp2_with fail
  go_at_call 72
  refine (CF.out _ HB.out).mono ?_
  rintro e w1 ⟨sG, rfl, hs, hsl, hb⟩
  clear qR0 fR0 qR1 fR1 qR2 fR2 qR3 fR3 zR qQ0 fQ0 qQ1 fQ1 qQ2 fQ2 qQ3 fQ3 zQ
  have HR := Lib.hid (HR.out.below hb)
  have HQ := Lib.hid (HQ.out.below hb)
  have HB := Lib.hid (below_after hb HB.out)
  clear hb
  have HSR := Lib.hid hs
  have le_s : w.heap.size ≤ sG := by have := hsl; omega
  have ne_R_s : GR ≠ sG := by omega
  have ne_Q_s : GQ ≠ sG := by omega
  clear hs
  obtain ⟨⟨qR0, qR1, qR2, qR3⟩, ⟨fR0, fR1, fR2, fR3⟩, zR⟩ := HR.out
  obtain ⟨⟨qQ0, qQ1, qQ2, qQ3⟩, ⟨fQ0, fQ1, fQ2, fQ3⟩, zQ⟩ := HQ.out
  go_wp2_with fail
  go_at_call 109
  refine (l01DrawUnit_any _ a n cap _ HSR.out).mono ?_
  rintro e w2 ⟨p, q, r, t, rfl, hg, hs⟩
  clear qR0 fR0 qR1 fR1 qR2 fR2 qR3 fR3 zR qQ0 fQ0 qQ1 fQ1 qQ2 fQ2 qQ3 fQ3 zQ
  have HR := Lib.hid (HR.out.grows hg (by intro hh; injection hh with hh; exact ne_R_s hh.symm))
  have HQ := Lib.hid (HQ.out.grows hg (by intro hh; injection hh with hh; exact ne_Q_s hh.symm))
  have HB := Lib.hid (Below.grown HB.out hg HB.out.size (fun k hk => by injection hk with hk; omega))
  have HSR := Lib.hid hs
  clear hg hs
  obtain ⟨⟨qR0, qR1, qR2, qR3⟩, ⟨fR0, fR1, fR2, fR3⟩, zR⟩ := HR.out
  obtain ⟨⟨qQ0, qQ1, qQ2, qQ3⟩, ⟨fQ0, fQ1, fQ2, fQ3⟩, zQ⟩ := HQ.out
  go_upto_region 3 with fail
  obtain ⟨GM, hGM⟩ : ∃ g, w2.heap.size = g := ⟨_, rfl⟩
  obtain ⟨w3, hw3⟩ : ∃ wx, wx = w2.alloc (.cells #[.int .i64 p, .int .i64 q, .int .i64 r, .int .i64 t] 26) := ⟨_, rfl⟩
  rw [← hw3, hGM]
  have HM : Hid (Bk4 w3 GM p q r t) := by rw [hw3, ← hGM]; exact bk4_new w2 p q r t _
  have le_M : w.heap.size ≤ GM := by rw [← hGM]; exact HB.out.size
  have ne_M_R : GM ≠ GR := by have := HR.out.2.2; omega
  have ne_R_M : GR ≠ GM := Ne.symm ne_M_R
  have ne_M_Q : GM ≠ GQ := by have := HQ.out.2.2; omega
  have ne_Q_M : GQ ≠ GM := Ne.symm ne_M_Q
  have lt_s_M : sG < GM := by have := HSR.out.lt; omega
  have ne_M_s : GM ≠ sG := by omega
  clear qR0 fR0 qR1 fR1 qR2 fR2 qR3 fR3 zR qQ0 fQ0 qQ1 fQ1 qQ2 fQ2 qQ3 fQ3 zQ
  have HR := Lib.hid (HR.out.below ((Below.refl _ _).alloc (Nat.le_refl _) (.cells #[.int .i64 p, .int .i64 q, .int .i64 r, .int .i64 t] 26)))
  have HQ := Lib.hid (HQ.out.below ((Below.refl _ _).alloc (Nat.le_refl _) (.cells #[.int .i64 p, .int .i64 q, .int .i64 r, .int .i64 t] 26)))
  have HSR := Lib.hid (HSR.out.below ((Below.refl _ _).alloc (Nat.le_refl _) (.cells #[.int .i64 p, .int .i64 q, .int .i64 r, .int .i64 t] 26)))
  have HB := Lib.hid (Below.alloc HB.out HB.out.size (.cells #[.int .i64 p, .int .i64 q, .int .i64 r, .int .i64 t] 26))
  rw [← hw3] at HR HQ HSR HB
  clear hw3 hGM
  obtain ⟨⟨qR0, qR1, qR2, qR3⟩, ⟨fR0, fR1, fR2, fR3⟩, zR⟩ := HR.out
  obtain ⟨⟨qQ0, qQ1, qQ2, qQ3⟩, ⟨fQ0, fQ1, fQ2, fQ3⟩, zQ⟩ := HQ.out
  obtain ⟨⟨qM0, qM1, qM2, qM3⟩, ⟨fM0, fM1, fM2, fM3⟩, zM⟩ := HM.out
  go_wp2_with fail
  go_at_call 87
  refine (l01Next_any _ a n cap 12 _ HSR.out).mono ?_
  rintro e w4 ⟨v, rfl, -, -, hg, hs⟩
  clear qR0 fR0 qR1 fR1 qR2 fR2 qR3 fR3 zR qQ0 fQ0 qQ1 fQ1 qQ2 fQ2 qQ3 fQ3 zQ qM0 fM0 qM1 fM1 qM2 fM2 qM3 fM3 zM
  have HR := Lib.hid (HR.out.grows hg (by intro hh; injection hh with hh; exact ne_R_s hh.symm))
  have HQ := Lib.hid (HQ.out.grows hg (by intro hh; injection hh with hh; exact ne_Q_s hh.symm))
  have HM := Lib.hid (HM.out.grows hg (by intro hh; injection hh with hh; exact ne_M_s hh.symm))
  have HB := Lib.hid (Below.grown HB.out hg HB.out.size (fun k hk => by injection hk with hk; omega))
  have HSR := Lib.hid hs
  clear hg hs
  by_cases hv0 : v = 0
  · subst hv0
    obtain ⟨⟨qR0, qR1, qR2, qR3⟩, ⟨fR0, fR1, fR2, fR3⟩, zR⟩ := HR.out
    obtain ⟨⟨qQ0, qQ1, qQ2, qQ3⟩, ⟨fQ0, fQ1, fQ2, fQ3⟩, zQ⟩ := HQ.out
    obtain ⟨⟨qM0, qM1, qM2, qM3⟩, ⟨fM0, fM1, fM2, fM3⟩, zM⟩ := HM.out
    go_wp2_with fail
    go_at_call 71
    refine (l01AnyMatrix_any _ a n cap _ HSR.out).mono ?_
    rintro e w5 ⟨p1, q1, r1, t1, rfl, hg, hs⟩
    clear qR0 fR0 qR1 fR1 qR2 fR2 qR3 fR3 zR qQ0 fQ0 qQ1 fQ1 qQ2 fQ2 qQ3 fQ3 zQ qM0 fM0 qM1 fM1 qM2 fM2 qM3 fM3 zM
    have HR := Lib.hid (HR.out.grows hg (by intro hh; injection hh with hh; exact ne_R_s hh.symm))
    have HQ := Lib.hid (HQ.out.grows hg (by intro hh; injection hh with hh; exact ne_Q_s hh.symm))
    have HM := Lib.hid (HM.out.grows hg (by intro hh; injection hh with hh; exact ne_M_s hh.symm))
    have HB := Lib.hid (Below.grown HB.out hg HB.out.size (fun k hk => by injection hk with hk; omega))
    have HSR := Lib.hid hs
    clear hg hs
    obtain ⟨⟨qR0, qR1, qR2, qR3⟩, ⟨fR0, fR1, fR2, fR3⟩, zR⟩ := HR.out
    obtain ⟨⟨qQ0, qQ1, qQ2, qQ3⟩, ⟨fQ0, fQ1, fQ2, fQ3⟩, zQ⟩ := HQ.out
    obtain ⟨⟨qM0, qM1, qM2, qM3⟩, ⟨fM0, fM1, fM2, fM3⟩, zM⟩ := HM.out
    go_upto_region 5 with fail
    obtain ⟨w6, hw6⟩ : ∃ wx, wx = ((((w5.setCell ⟨GM, 0, none⟩ (.int .i64 p1)).setCell ⟨GM, 1, none⟩ (.int .i64 q1)).setCell ⟨GM, 2, none⟩ (.int .i64 r1)).setCell ⟨GM, 3, none⟩ (.int .i64 t1)) := ⟨_, rfl⟩
    rw [← hw6]
    clear qR0 fR0 qR1 fR1 qR2 fR2 qR3 fR3 zR qQ0 fQ0 qQ1 fQ1 qQ2 fQ2 qQ3 fQ3 zQ qM0 fM0 qM1 fM1 qM2 fM2 qM3 fM3 zM
    have HR := Lib.hid ((((HR.out.far ⟨GM, 0, none⟩ (.int .i64 p1) (by show GR ≠ GM; exact ne_R_M)).far ⟨GM, 1, none⟩ (.int .i64 q1) (by show GR ≠ GM; exact ne_R_M)).far ⟨GM, 2, none⟩ (.int .i64 r1) (by show GR ≠ GM; exact ne_R_M)).far ⟨GM, 3, none⟩ (.int .i64 t1) (by show GR ≠ GM; exact ne_R_M))
    have HQ := Lib.hid ((((HQ.out.far ⟨GM, 0, none⟩ (.int .i64 p1) (by show GQ ≠ GM; exact ne_Q_M)).far ⟨GM, 1, none⟩ (.int .i64 q1) (by show GQ ≠ GM; exact ne_Q_M)).far ⟨GM, 2, none⟩ (.int .i64 r1) (by show GQ ≠ GM; exact ne_Q_M)).far ⟨GM, 3, none⟩ (.int .i64 t1) (by show GQ ≠ GM; exact ne_Q_M))
    have HM := Lib.hid ((((HM.out.set0 p1).set1 q1).set2 r1).set3 t1)
    have HSR := Lib.hid (sr_set (sr_set (sr_set (sr_set HSR.out _ 0 (.int .i64 p1) lt_s_M) _ 1 (.int .i64 q1) lt_s_M) _ 2 (.int .i64 r1) lt_s_M) _ 3 (.int .i64 t1) lt_s_M)
    have HB := Lib.hid (Below.setCell (Below.setCell (Below.setCell (Below.setCell HB.out (p := ⟨GM, 0, none⟩) le_M (.int .i64 p1)) (p := ⟨GM, 1, none⟩) le_M (.int .i64 q1)) (p := ⟨GM, 2, none⟩) le_M (.int .i64 r1)) (p := ⟨GM, 3, none⟩) le_M (.int .i64 t1))
    rw [← hw6] at HR HQ HM HSR HB
    clear hw6
    go_wp2_with fail
    refine wp_region_held_drew (S := fun W => Below w.heap.size w W ∧ Bk4 W GM p1 q1 r1 t1) (by kernel_rfl) ?_ (fun hHeld => ?_); focus ((try dsimp only); exact ⟨Below.drew HB.out, HM.out.below (Below.drew (Below.refl _ _))⟩)
    have HR := Lib.hid (HR.out.below (Below.drew (Below.refl _ _)))
    have HQ := Lib.hid (HQ.out.below (Below.drew (Below.refl _ _)))
    have HM := Lib.hid (HM.out.below (Below.drew (Below.refl _ _)))
    have HSR := Lib.hid (HSR.out.below (Below.drew (Below.refl _ _)))
    have hHeld : (fun W => Below w.heap.size w W ∧ Bk4 W GM p1 q1 r1 t1) _ := hHeld
    obtain ⟨wD6, hwD6⟩ : ∃ wD, w6.drew = wD := ⟨_, rfl⟩
    rw [hwD6] at hHeld HR HQ HM HSR ⊢
    clear hwD6
    (refine wpAnyH_take (i := 0) (v := ?_) rfl (by kernel_rfl) (by kernel_rfl) (by kernel_rfl) (fun _ _ _ h => h) (Or.inl ⟨rfl, ?_⟩) (by assumption) ?_; rotate_left; focus (intro W hSw; (try dsimp only at hSw); obtain ⟨hSb, hxM⟩ := hSw; obtain ⟨⟨iM0, iM1, iM2, iM3⟩, _, _⟩ := hxM; go_simp; try (with_reducible rfl))); (try simp only [Act.put, List.getElem_toArray, List.getElem_cons_succ, List.getElem_cons_zero, List.setIfInBounds_toArray, List.set_cons_zero, List.set_cons_succ])
    (refine wpAnyH_take (i := 1) (v := ?_) rfl (by kernel_rfl) (by kernel_rfl) (by kernel_rfl) (fun _ _ _ h => h) (Or.inl ⟨rfl, ?_⟩) (by assumption) ?_; rotate_left; focus (intro W hSw; (try dsimp only at hSw); obtain ⟨hSb, hxM⟩ := hSw; obtain ⟨⟨iM0, iM1, iM2, iM3⟩, _, _⟩ := hxM; go_simp; try (with_reducible rfl))); (try simp only [Act.put, List.getElem_toArray, List.getElem_cons_succ, List.getElem_cons_zero, List.setIfInBounds_toArray, List.set_cons_zero, List.set_cons_succ])
    refine wpAnyH_ready (rs := [2]) (by kernel_rfl) (by simp) ?_; refine AllReadyH.cons rfl (fun K hK => ?_) AllReadyH.nil
    go_simp; (go_at_call 110; refine (l02Spoil_any _ a n cap _ HSR.out).mono ?_; rintro en ywr6x0 ⟨x0, y0, x1, y1, rfl, hg, hs⟩)
    have HR := Lib.hid (HR.out.grows hg (by intro hh; injection hh with hh; exact ne_R_s hh.symm))
    have HQ := Lib.hid (HQ.out.grows hg (by intro hh; injection hh with hh; exact ne_Q_s hh.symm))
    have HM := Lib.hid (HM.out.grows hg (by intro hh; injection hh with hh; exact ne_M_s hh.symm))
    have hBn := Below.grown hHeld.1 hg (Below.size hHeld.1) (fun k hk => by injection hk with hk; omega)
    have HSR := Lib.hid hs
    clear hg hs
    refine hK.out _ _ ⟨hBn, HM.out⟩ (fun hHeld2 => ?_); clear hBn; (clear hHeld; rename _ => hHeld; clear hK K; have hHeld : (fun W => Below w.heap.size w W ∧ Bk4 W GM p1 q1 r1 t1) _ := hHeld); (try simp only [Act.put, List.getElem_toArray, List.getElem_cons_succ, List.getElem_cons_zero, List.setIfInBounds_toArray, List.set_cons_zero, List.set_cons_succ])
    refine wpAnyH_ready (rs := [3]) (by kernel_rfl) (by simp) ?_; refine AllReadyH.cons rfl (fun K hK => ?_) AllReadyH.nil
    clear HSR
    obtain ⟨⟨a0, a1, a2, a3⟩, ⟨f0, f1, f2, f3⟩, az⟩ := HR.out; go_simp; clear a0 f0 a1 f1 a2 f2 a3 f3 az
    have HQ := Lib.hid ((((HQ.out.far ⟨GR, 0, none⟩ (.int .i64 p1) (by show GQ ≠ GR; exact ne_Q_R)).far ⟨GR, 1, none⟩ (.int .i64 q1) (by show GQ ≠ GR; exact ne_Q_R)).far ⟨GR, 2, none⟩ (.int .i64 r1) (by show GQ ≠ GR; exact ne_Q_R)).far ⟨GR, 3, none⟩ (.int .i64 t1) (by show GQ ≠ GR; exact ne_Q_R))
    have HM := Lib.hid ((((HM.out.far ⟨GR, 0, none⟩ (.int .i64 p1) (by show GM ≠ GR; exact ne_M_R)).far ⟨GR, 1, none⟩ (.int .i64 q1) (by show GM ≠ GR; exact ne_M_R)).far ⟨GR, 2, none⟩ (.int .i64 r1) (by show GM ≠ GR; exact ne_M_R)).far ⟨GR, 3, none⟩ (.int .i64 t1) (by show GM ≠ GR; exact ne_M_R))
    have HR := Lib.hid ((((HR.out.set0 p1).set1 q1).set2 r1).set3 t1)
    refine hK.out _ _ ⟨(Below.setCell (Below.setCell (Below.setCell (Below.setCell hHeld.1 (p := ⟨GR, 0, none⟩) le_R _) (p := ⟨GR, 1, none⟩) le_R _) (p := ⟨GR, 2, none⟩) le_R _) (p := ⟨GR, 3, none⟩) le_R _), HM.out⟩ (fun hHeld2 => ?_); (clear hHeld; rename _ => hHeld; clear hK K; have hHeld : (fun W => Below w.heap.size w W ∧ Bk4 W GM p1 q1 r1 t1) _ := hHeld); (try simp only [Act.put, List.getElem_toArray, List.getElem_cons_succ, List.getElem_cons_zero, List.setIfInBounds_toArray, List.set_cons_zero, List.set_cons_succ])
    obtain ⟨ywr6x1, hwx⟩ : ∃ wx, (((ywr6x0.setCell ⟨GR, 0, none⟩ (.int .i64 p1)).setCell ⟨GR, 1, none⟩ (.int .i64 q1)).setCell ⟨GR, 2, none⟩ (.int .i64 r1)).setCell ⟨GR, 3, none⟩ (.int .i64 t1) = wx := ⟨_, rfl⟩; rw [hwx] at HR HQ HM hHeld ⊢; clear hwx
    refine wpAnyH_ready (rs := [4]) (by kernel_rfl) (by simp) ?_; refine AllReadyH.cons rfl (fun K hK => ?_) AllReadyH.nil
    obtain ⟨⟨a0, a1, a2, a3⟩, ⟨f0, f1, f2, f3⟩, az⟩ := HQ.out; go_simp; clear a0 f0 a1 f1 a2 f2 a3 f3 az
    have HR := Lib.hid ((((HR.out.far ⟨GQ, 0, none⟩ (.int .i64 x0) (by show GR ≠ GQ; exact ne_R_Q)).far ⟨GQ, 1, none⟩ (.int .i64 y0) (by show GR ≠ GQ; exact ne_R_Q)).far ⟨GQ, 2, none⟩ (.int .i64 x1) (by show GR ≠ GQ; exact ne_R_Q)).far ⟨GQ, 3, none⟩ (.int .i64 y1) (by show GR ≠ GQ; exact ne_R_Q))
    have HM := Lib.hid ((((HM.out.far ⟨GQ, 0, none⟩ (.int .i64 x0) (by show GM ≠ GQ; exact ne_M_Q)).far ⟨GQ, 1, none⟩ (.int .i64 y0) (by show GM ≠ GQ; exact ne_M_Q)).far ⟨GQ, 2, none⟩ (.int .i64 x1) (by show GM ≠ GQ; exact ne_M_Q)).far ⟨GQ, 3, none⟩ (.int .i64 y1) (by show GM ≠ GQ; exact ne_M_Q))
    have HQ := Lib.hid ((((HQ.out.set0 x0).set1 y0).set2 x1).set3 y1)
    refine hK.out _ _ ⟨(Below.setCell (Below.setCell (Below.setCell (Below.setCell hHeld.1 (p := ⟨GQ, 0, none⟩) le_Q _) (p := ⟨GQ, 1, none⟩) le_Q _) (p := ⟨GQ, 2, none⟩) le_Q _) (p := ⟨GQ, 3, none⟩) le_Q _), HM.out⟩ (fun hHeld2 => ?_); (clear hHeld; rename _ => hHeld; clear hK K; have hHeld : (fun W => Below w.heap.size w W ∧ Bk4 W GM p1 q1 r1 t1) _ := hHeld); (try simp only [Act.put, List.getElem_toArray, List.getElem_cons_succ, List.getElem_cons_zero, List.setIfInBounds_toArray, List.set_cons_zero, List.set_cons_succ])
    obtain ⟨ywr6x2, hwx⟩ : ∃ wx, (((ywr6x1.setCell ⟨GQ, 0, none⟩ (.int .i64 x0)).setCell ⟨GQ, 1, none⟩ (.int .i64 y0)).setCell ⟨GQ, 2, none⟩ (.int .i64 x1)).setCell ⟨GQ, 3, none⟩ (.int .i64 y1) = wx := ⟨_, rfl⟩; rw [hwx] at HR HQ HM hHeld ⊢; clear hwx
    refine wpAnyH_done (by kernel_rfl) ?_ _
    have HB := Lib.hid (hHeld.1)
    clear hHeld
    obtain ⟨⟨qR0, qR1, qR2, qR3⟩, ⟨fR0, fR1, fR2, fR3⟩, zR⟩ := HR.out
    obtain ⟨⟨qQ0, qQ1, qQ2, qQ3⟩, ⟨fQ0, fQ1, fQ2, fQ3⟩, zQ⟩ := HQ.out
    obtain ⟨⟨qM0, qM1, qM2, qM3⟩, ⟨fM0, fM1, fM2, fM3⟩, zM⟩ := HM.out
    go_wp2_with fail
    refine bodyPost_ret (v := .tuple #[.agg #[.int .i64 p1, .int .i64 q1, .int .i64 r1, .int .i64 t1], .agg #[.int .i64 x0, .int .i64 y0, .int .i64 x1, .int .i64 y1]]) (by simp (maxDischargeDepth := 8) [results, Try.results37, go_sem, *]) rfl ?_
    have hb := HB.out
    exact ⟨p1, q1, r1, t1, x0, y0, x1, y1, rfl, hb⟩
  · skip
    go_wp2_with fail
    refine wp_region_held_drew (S := fun W => Below w.heap.size w W ∧ Bk4 W GM p q r t) (by kernel_rfl) ?_ (fun hHeld => ?_); focus ((try dsimp only); exact ⟨Below.drew HB.out, HM.out.below (Below.drew (Below.refl _ _))⟩)
    have HR := Lib.hid (HR.out.below (Below.drew (Below.refl _ _)))
    have HQ := Lib.hid (HQ.out.below (Below.drew (Below.refl _ _)))
    have HM := Lib.hid (HM.out.below (Below.drew (Below.refl _ _)))
    have HSR := Lib.hid (HSR.out.below (Below.drew (Below.refl _ _)))
    have hHeld : (fun W => Below w.heap.size w W ∧ Bk4 W GM p q r t) _ := hHeld
    obtain ⟨wD4, hwD4⟩ : ∃ wD, w4.drew = wD := ⟨_, rfl⟩
    rw [hwD4] at hHeld HR HQ HM HSR ⊢
    clear hwD4
    (refine wpAnyH_take (i := 0) (v := ?_) rfl (by kernel_rfl) (by kernel_rfl) (by kernel_rfl) (fun _ _ _ h => h) (Or.inl ⟨rfl, ?_⟩) (by assumption) ?_; rotate_left; focus (intro W hSw; (try dsimp only at hSw); obtain ⟨hSb, hxM⟩ := hSw; obtain ⟨⟨iM0, iM1, iM2, iM3⟩, _, _⟩ := hxM; go_simp; try (with_reducible rfl))); (try simp only [Act.put, List.getElem_toArray, List.getElem_cons_succ, List.getElem_cons_zero, List.setIfInBounds_toArray, List.set_cons_zero, List.set_cons_succ])
    (refine wpAnyH_take (i := 1) (v := ?_) rfl (by kernel_rfl) (by kernel_rfl) (by kernel_rfl) (fun _ _ _ h => h) (Or.inl ⟨rfl, ?_⟩) (by assumption) ?_; rotate_left; focus (intro W hSw; (try dsimp only at hSw); obtain ⟨hSb, hxM⟩ := hSw; obtain ⟨⟨iM0, iM1, iM2, iM3⟩, _, _⟩ := hxM; go_simp; try (with_reducible rfl))); (try simp only [Act.put, List.getElem_toArray, List.getElem_cons_succ, List.getElem_cons_zero, List.setIfInBounds_toArray, List.set_cons_zero, List.set_cons_succ])
    refine wpAnyH_ready (rs := [2]) (by kernel_rfl) (by simp) ?_; refine AllReadyH.cons rfl (fun K hK => ?_) AllReadyH.nil
    go_simp; (go_at_call 110; refine (l02Spoil_any _ a n cap _ HSR.out).mono ?_; rintro en ywr4x0 ⟨x0, y0, x1, y1, rfl, hg, hs⟩)
    have HR := Lib.hid (HR.out.grows hg (by intro hh; injection hh with hh; exact ne_R_s hh.symm))
    have HQ := Lib.hid (HQ.out.grows hg (by intro hh; injection hh with hh; exact ne_Q_s hh.symm))
    have HM := Lib.hid (HM.out.grows hg (by intro hh; injection hh with hh; exact ne_M_s hh.symm))
    have hBn := Below.grown hHeld.1 hg (Below.size hHeld.1) (fun k hk => by injection hk with hk; omega)
    have HSR := Lib.hid hs
    clear hg hs
    refine hK.out _ _ ⟨hBn, HM.out⟩ (fun hHeld2 => ?_); clear hBn; (clear hHeld; rename _ => hHeld; clear hK K; have hHeld : (fun W => Below w.heap.size w W ∧ Bk4 W GM p q r t) _ := hHeld); (try simp only [Act.put, List.getElem_toArray, List.getElem_cons_succ, List.getElem_cons_zero, List.setIfInBounds_toArray, List.set_cons_zero, List.set_cons_succ])
    refine wpAnyH_ready (rs := [3]) (by kernel_rfl) (by simp) ?_; refine AllReadyH.cons rfl (fun K hK => ?_) AllReadyH.nil
    clear HSR
    obtain ⟨⟨a0, a1, a2, a3⟩, ⟨f0, f1, f2, f3⟩, az⟩ := HR.out; go_simp; clear a0 f0 a1 f1 a2 f2 a3 f3 az
    have HQ := Lib.hid ((((HQ.out.far ⟨GR, 0, none⟩ (.int .i64 p) (by show GQ ≠ GR; exact ne_Q_R)).far ⟨GR, 1, none⟩ (.int .i64 q) (by show GQ ≠ GR; exact ne_Q_R)).far ⟨GR, 2, none⟩ (.int .i64 r) (by show GQ ≠ GR; exact ne_Q_R)).far ⟨GR, 3, none⟩ (.int .i64 t) (by show GQ ≠ GR; exact ne_Q_R))
    have HM := Lib.hid ((((HM.out.far ⟨GR, 0, none⟩ (.int .i64 p) (by show GM ≠ GR; exact ne_M_R)).far ⟨GR, 1, none⟩ (.int .i64 q) (by show GM ≠ GR; exact ne_M_R)).far ⟨GR, 2, none⟩ (.int .i64 r) (by show GM ≠ GR; exact ne_M_R)).far ⟨GR, 3, none⟩ (.int .i64 t) (by show GM ≠ GR; exact ne_M_R))
    have HR := Lib.hid ((((HR.out.set0 p).set1 q).set2 r).set3 t)
    refine hK.out _ _ ⟨(Below.setCell (Below.setCell (Below.setCell (Below.setCell hHeld.1 (p := ⟨GR, 0, none⟩) le_R _) (p := ⟨GR, 1, none⟩) le_R _) (p := ⟨GR, 2, none⟩) le_R _) (p := ⟨GR, 3, none⟩) le_R _), HM.out⟩ (fun hHeld2 => ?_); (clear hHeld; rename _ => hHeld; clear hK K; have hHeld : (fun W => Below w.heap.size w W ∧ Bk4 W GM p q r t) _ := hHeld); (try simp only [Act.put, List.getElem_toArray, List.getElem_cons_succ, List.getElem_cons_zero, List.setIfInBounds_toArray, List.set_cons_zero, List.set_cons_succ])
    obtain ⟨ywr4x1, hwx⟩ : ∃ wx, (((ywr4x0.setCell ⟨GR, 0, none⟩ (.int .i64 p)).setCell ⟨GR, 1, none⟩ (.int .i64 q)).setCell ⟨GR, 2, none⟩ (.int .i64 r)).setCell ⟨GR, 3, none⟩ (.int .i64 t) = wx := ⟨_, rfl⟩; rw [hwx] at HR HQ HM hHeld ⊢; clear hwx
    refine wpAnyH_ready (rs := [4]) (by kernel_rfl) (by simp) ?_; refine AllReadyH.cons rfl (fun K hK => ?_) AllReadyH.nil
    obtain ⟨⟨a0, a1, a2, a3⟩, ⟨f0, f1, f2, f3⟩, az⟩ := HQ.out; go_simp; clear a0 f0 a1 f1 a2 f2 a3 f3 az
    have HR := Lib.hid ((((HR.out.far ⟨GQ, 0, none⟩ (.int .i64 x0) (by show GR ≠ GQ; exact ne_R_Q)).far ⟨GQ, 1, none⟩ (.int .i64 y0) (by show GR ≠ GQ; exact ne_R_Q)).far ⟨GQ, 2, none⟩ (.int .i64 x1) (by show GR ≠ GQ; exact ne_R_Q)).far ⟨GQ, 3, none⟩ (.int .i64 y1) (by show GR ≠ GQ; exact ne_R_Q))
    have HM := Lib.hid ((((HM.out.far ⟨GQ, 0, none⟩ (.int .i64 x0) (by show GM ≠ GQ; exact ne_M_Q)).far ⟨GQ, 1, none⟩ (.int .i64 y0) (by show GM ≠ GQ; exact ne_M_Q)).far ⟨GQ, 2, none⟩ (.int .i64 x1) (by show GM ≠ GQ; exact ne_M_Q)).far ⟨GQ, 3, none⟩ (.int .i64 y1) (by show GM ≠ GQ; exact ne_M_Q))
    have HQ := Lib.hid ((((HQ.out.set0 x0).set1 y0).set2 x1).set3 y1)
    refine hK.out _ _ ⟨(Below.setCell (Below.setCell (Below.setCell (Below.setCell hHeld.1 (p := ⟨GQ, 0, none⟩) le_Q _) (p := ⟨GQ, 1, none⟩) le_Q _) (p := ⟨GQ, 2, none⟩) le_Q _) (p := ⟨GQ, 3, none⟩) le_Q _), HM.out⟩ (fun hHeld2 => ?_); (clear hHeld; rename _ => hHeld; clear hK K; have hHeld : (fun W => Below w.heap.size w W ∧ Bk4 W GM p q r t) _ := hHeld); (try simp only [Act.put, List.getElem_toArray, List.getElem_cons_succ, List.getElem_cons_zero, List.setIfInBounds_toArray, List.set_cons_zero, List.set_cons_succ])
    obtain ⟨ywr4x2, hwx⟩ : ∃ wx, (((ywr4x1.setCell ⟨GQ, 0, none⟩ (.int .i64 x0)).setCell ⟨GQ, 1, none⟩ (.int .i64 y0)).setCell ⟨GQ, 2, none⟩ (.int .i64 x1)).setCell ⟨GQ, 3, none⟩ (.int .i64 y1) = wx := ⟨_, rfl⟩; rw [hwx] at HR HQ HM hHeld ⊢; clear hwx
    refine wpAnyH_done (by kernel_rfl) ?_ _
    have HB := Lib.hid (hHeld.1)
    clear hHeld
    obtain ⟨⟨qR0, qR1, qR2, qR3⟩, ⟨fR0, fR1, fR2, fR3⟩, zR⟩ := HR.out
    obtain ⟨⟨qQ0, qQ1, qQ2, qQ3⟩, ⟨fQ0, fQ1, fQ2, fQ3⟩, zQ⟩ := HQ.out
    obtain ⟨⟨qM0, qM1, qM2, qM3⟩, ⟨fM0, fM1, fM2, fM3⟩, zM⟩ := HM.out
    go_wp2_with fail
    refine bodyPost_ret (v := .tuple #[.agg #[.int .i64 p, .int .i64 q, .int .i64 r, .int .i64 t], .agg #[.int .i64 x0, .int .i64 y0, .int .i64 x1, .int .i64 y1]]) (by simp (maxDischargeDepth := 8) [results, Try.results37, go_sem, *]) rfl ?_
    have hb := HB.out
    exact ⟨p, q, r, t, x0, y0, x1, y1, rfl, hb⟩
end Go.Proofs.Ytoenlpkphekbnaa
