/-
  The draws of pairs of points (own work).
-/
import Derived.Test.YtadikmjdmddkjaaFpB
import Derived.Test.YtadikmjdmddkjaaRpI
import Derived.BigRegion
namespace Go.Proofs.Ytadikmjdmddkjaa
open Go.ChangeShapes Go.WideShapes Go.ChangeAt Go.RowKit
set_option linter.unusedVariables false
set_option linter.unusedSimpArgs false
set_option maxRecDepth 100000

set_option maxHeartbeats 4000000 in
theorem l10Points_any (a : Option Addr) (n cap : Nat) (w : World) (hn : n ≤ 9223372036854775807) (hb : Byt w w.heap.size a n) :
    Calls Try.prog 20 #[.slice a n cap] w fun e w' => ∃ x0 y0 x1 y1 : Int, e = .returned (.tuple #[.agg #[.int .i64 x0, .int .i64 y0], .agg #[.int .i64 x1, .int .i64 y1]]) ∧ Below w.heap.size w w' := by
  have CF : Hid (∀ W, Below w.heap.size w W → Calls Try.prog 25 #[.slice a n cap] W fun e w' => ∃ s, e = .returned (.pointer (some ⟨s, 0, none⟩)) ∧ Sr w' s a n cap ∧ (w.heap.size ≤ s ∧ W.heap.size ≤ s) ∧ Below W.heap.size W w') := fun W hW => (l01From_any a n cap W hn (hb.over hW)).mono (by rintro e w' ⟨rfl, h1, h2⟩; exact ⟨_, rfl, h2, ⟨hW.size, Nat.le_refl _⟩, h1⟩)
  clear hb
  obtain ⟨GR, hG⟩ : ∃ G, w.heap.size = G := ⟨_, rfl⟩
  have HG := Lib.hid hG
  go_enter Try.func20, Try.ntmps20
  go_upto_region 1 with fail
  obtain ⟨w0, hw0⟩ : ∃ w0, w0 = ((w.alloc (.cells #[.int .i64 0, .int .i64 0] 25)).alloc (.cells #[.int .i64 0, .int .i64 0] 25)) := ⟨_, rfl⟩
  rw [← hw0]
  have HR : Hid (Bk2 w0 GR 0 0) := by
    have h := (bk2_new w 0 0 25).below (W' := ((w.alloc (.cells #[.int .i64 0, .int .i64 0] 25)).alloc (.cells #[.int .i64 0, .int .i64 0] 25))) (by (repeat' (first | (with_reducible exact Below.refl _ _) | (with_reducible refine Below.alloc ?_ ?_ _) | (with_reducible refine Below.setCell ?_ ?_ _) | (with_reducible refine Below.drew ?_) | (with_reducible refine below_drewN ?_ _) | (with_reducible assumption) | (with_reducible refine below_after (by with_reducible assumption) ?_) | go_size)))
    (try simp only [World.size_alloc] at h)
    rw [hG] at h
    rw [hw0]; exact h
  have HQ : Hid (Bk2 w0 (GR + 1) 0 0) := by
    have h := (bk2_new (w.alloc (.cells #[.int .i64 0, .int .i64 0] 25)) 0 0 25).below (W' := ((w.alloc (.cells #[.int .i64 0, .int .i64 0] 25)).alloc (.cells #[.int .i64 0, .int .i64 0] 25))) (by (repeat' (first | (with_reducible exact Below.refl _ _) | (with_reducible refine Below.alloc ?_ ?_ _) | (with_reducible refine Below.setCell ?_ ?_ _) | (with_reducible refine Below.drew ?_) | (with_reducible refine below_drewN ?_ _) | (with_reducible assumption) | (with_reducible refine below_after (by with_reducible assumption) ?_) | go_size)))
    (try simp only [World.size_alloc] at h)
    rw [hG] at h
    rw [hw0]; exact h
  have HB : Hid (Below w.heap.size w w0) := by show Below w.heap.size w w0; rw [hw0]; (repeat' (first | (with_reducible exact Below.refl _ _) | (with_reducible refine Below.alloc ?_ ?_ _) | (with_reducible refine Below.setCell ?_ ?_ _) | (with_reducible refine Below.drew ?_) | (with_reducible refine below_drewN ?_ _) | (with_reducible assumption) | (with_reducible refine below_after (by with_reducible assumption) ?_) | go_size))
  clear hw0
  obtain ⟨GQ, hGQ⟩ : ∃ g, GR + 1 = g := ⟨_, rfl⟩
  rw [hGQ] at HQ ⊢
  have le_R : w.heap.size ≤ GR := by omega
  have le_Q : w.heap.size ≤ GQ := by omega
  have ne_Q_R : GQ ≠ GR := by omega
  have ne_R_Q : GR ≠ GQ := by omega
  clear hGQ
  have zR0 := HR.out.2.2
  have zQ0 := HQ.out.2.2
  obtain ⟨⟨qR0, qR1⟩, ⟨fR0, fR1⟩, zR⟩ := HR.out
  obtain ⟨⟨qQ0, qQ1⟩, ⟨fQ0, fQ1⟩, zQ⟩ := HQ.out
  go_wp2_with fail
  go_at_call 25
  refine (CF.out _ HB.out).mono ?_
  rintro e w1 ⟨sG, rfl, hs, hsl, hb⟩
  clear qR0 fR0 qR1 fR1 zR qQ0 fQ0 qQ1 fQ1 zQ
  have HR := Lib.hid (HR.out.below hb)
  have HQ := Lib.hid (HQ.out.below hb)
  have HB := Lib.hid (below_after hb HB.out)
  clear hb
  have HSR := Lib.hid hs
  have le_s : w.heap.size ≤ sG := by have := hsl; omega
  have ne_R_s : GR ≠ sG := by omega
  have ne_Q_s : GQ ≠ sG := by omega
  clear hs
  obtain ⟨⟨qR0, qR1⟩, ⟨fR0, fR1⟩, zR⟩ := HR.out
  obtain ⟨⟨qQ0, qQ1⟩, ⟨fQ0, fQ1⟩, zQ⟩ := HQ.out
  go_wp2_with fail
  go_at_call 36
  refine (l01Size_any _ a n cap _ HSR.out).mono ?_
  rintro e w2 ⟨m, hm1, hm2, rfl, hg, hs⟩
  clear qR0 fR0 qR1 fR1 zR qQ0 fQ0 qQ1 fQ1 zQ
  have HR := Lib.hid (HR.out.grows hg (by intro hh; injection hh with hh; exact ne_R_s hh.symm))
  have HQ := Lib.hid (HQ.out.grows hg (by intro hh; injection hh with hh; exact ne_Q_s hh.symm))
  have HB := Lib.hid (Below.grown HB.out hg HB.out.size (fun k hk => by injection hk with hk; omega))
  have HSR := Lib.hid hs
  clear hg hs
  obtain ⟨⟨qR0, qR1⟩, ⟨fR0, fR1⟩, zR⟩ := HR.out
  obtain ⟨⟨qQ0, qQ1⟩, ⟨fQ0, fQ1⟩, zQ⟩ := HQ.out
  go_wp2_with fail
  go_at_call 37
  refine (l01DrawPoint_any _ a n cap m _ HSR.out hm1 hm2).mono ?_
  rintro e w3 ⟨x0, y0, rfl, -, -, -, -, hg, hs⟩
  clear qR0 fR0 qR1 fR1 zR qQ0 fQ0 qQ1 fQ1 zQ
  have HR := Lib.hid (HR.out.grows hg (by intro hh; injection hh with hh; exact ne_R_s hh.symm))
  have HQ := Lib.hid (HQ.out.grows hg (by intro hh; injection hh with hh; exact ne_Q_s hh.symm))
  have HB := Lib.hid (Below.grown HB.out hg HB.out.size (fun k hk => by injection hk with hk; omega))
  have HSR := Lib.hid hs
  clear hg hs
  obtain ⟨⟨qR0, qR1⟩, ⟨fR0, fR1⟩, zR⟩ := HR.out
  obtain ⟨⟨qQ0, qQ1⟩, ⟨fQ0, fQ1⟩, zQ⟩ := HQ.out
  go_wp2_with fail
  go_at_call 37
  refine (l01DrawPoint_any _ a n cap m _ HSR.out hm1 hm2).mono ?_
  rintro e w4 ⟨x1, y1, rfl, -, -, -, -, hg, hs⟩
  clear qR0 fR0 qR1 fR1 zR qQ0 fQ0 qQ1 fQ1 zQ
  have HR := Lib.hid (HR.out.grows hg (by intro hh; injection hh with hh; exact ne_R_s hh.symm))
  have HQ := Lib.hid (HQ.out.grows hg (by intro hh; injection hh with hh; exact ne_Q_s hh.symm))
  have HB := Lib.hid (Below.grown HB.out hg HB.out.size (fun k hk => by injection hk with hk; omega))
  have HSR := Lib.hid hs
  clear hg hs
  obtain ⟨⟨qR0, qR1⟩, ⟨fR0, fR1⟩, zR⟩ := HR.out
  obtain ⟨⟨qQ0, qQ1⟩, ⟨fQ0, fQ1⟩, zQ⟩ := HQ.out
  go_upto_region 4 with fail
  obtain ⟨w5, hw5⟩ : ∃ wx, wx = (w4.alloc (.cells #[.int .i64 x0, .int .i64 y0] 25)).alloc (.cells #[.int .i64 x1, .int .i64 y1] 25) := ⟨_, rfl⟩
  rw [← hw5]
  obtain ⟨GA, hGA⟩ : ∃ g, w4.heap.size = g := ⟨_, rfl⟩
  have HA : Hid (Bk2 w5 GA x0 y0) := by
    have h := (bk2_new w4 x0 y0 25).below (W' := w5) (by rw [hw5]; (repeat' (first | (with_reducible exact Below.refl _ _) | (with_reducible refine Below.alloc ?_ ?_ _) | (with_reducible refine Below.setCell ?_ ?_ _) | (with_reducible refine Below.drew ?_) | (with_reducible refine below_drewN ?_ _) | (with_reducible assumption) | (with_reducible refine below_after (by with_reducible assumption) ?_) | go_size)))
    (try simp only [World.size_alloc] at h)
    rw [hGA] at h
    exact h
  have le_A : w.heap.size ≤ GA := by have := HB.out.size; omega
  have ne_A_R : GA ≠ GR := by have := HR.out.2.2; omega
  have ne_R_A : GR ≠ GA := Ne.symm ne_A_R
  have ne_A_Q : GA ≠ GQ := by have := HQ.out.2.2; omega
  have ne_Q_A : GQ ≠ GA := Ne.symm ne_A_Q
  have ne_A_s : GA ≠ sG := by have := HSR.out.lt; omega
  obtain ⟨GM, hGM⟩ : ∃ g, w4.heap.size + 1 = g := ⟨_, rfl⟩
  have HM : Hid (Bk2 w5 GM x1 y1) := by
    have h := (bk2_new (w4.alloc (.cells #[.int .i64 x0, .int .i64 y0] 25)) x1 y1 25).below (W' := w5) (by rw [hw5]; (repeat' (first | (with_reducible exact Below.refl _ _) | (with_reducible refine Below.alloc ?_ ?_ _) | (with_reducible refine Below.setCell ?_ ?_ _) | (with_reducible refine Below.drew ?_) | (with_reducible refine below_drewN ?_ _) | (with_reducible assumption) | (with_reducible refine below_after (by with_reducible assumption) ?_) | go_size)))
    (try simp only [World.size_alloc] at h)
    rw [hGM] at h
    exact h
  have le_M : w.heap.size ≤ GM := by have := HB.out.size; omega
  have ne_M_R : GM ≠ GR := by have := HR.out.2.2; omega
  have ne_R_M : GR ≠ GM := Ne.symm ne_M_R
  have ne_M_Q : GM ≠ GQ := by have := HQ.out.2.2; omega
  have ne_Q_M : GQ ≠ GM := Ne.symm ne_M_Q
  have ne_M_A : GM ≠ GA := by omega
  have ne_A_M : GA ≠ GM := Ne.symm ne_M_A
  have ne_M_s : GM ≠ sG := by have := HSR.out.lt; omega
  clear qR0 fR0 qR1 fR1 zR qQ0 fQ0 qQ1 fQ1 zQ
  have hbn : Below w4.heap.size w4 w5 := by rw [hw5]; (repeat' (first | (with_reducible exact Below.refl _ _) | (with_reducible refine Below.alloc ?_ ?_ _) | (with_reducible refine Below.setCell ?_ ?_ _) | (with_reducible refine Below.drew ?_) | (with_reducible refine below_drewN ?_ _) | (with_reducible assumption) | (with_reducible refine below_after (by with_reducible assumption) ?_) | go_size))
  have HR := Lib.hid (HR.out.below hbn)
  have HQ := Lib.hid (HQ.out.below hbn)
  have HSR := Lib.hid (HSR.out.below hbn)
  have HB := Lib.hid (below_after hbn HB.out)
  clear hbn
  rw [hGA] at hGM
  simp only [hGA]
  simp only [hGM]
  clear hw5 hGA hGM
  obtain ⟨⟨qR0, qR1⟩, ⟨fR0, fR1⟩, zR⟩ := HR.out
  obtain ⟨⟨qQ0, qQ1⟩, ⟨fQ0, fQ1⟩, zQ⟩ := HQ.out
  obtain ⟨⟨qA0, qA1⟩, ⟨fA0, fA1⟩, zA⟩ := HA.out
  obtain ⟨⟨qM0, qM1⟩, ⟨fM0, fM1⟩, zM⟩ := HM.out
  go_wp2_with fail
  go_at_call 26
  refine (l01Next_any _ a n cap 12 _ HSR.out).mono ?_
  rintro e w6 ⟨v, rfl, -, -, hg, hs⟩
  clear qR0 fR0 qR1 fR1 zR qQ0 fQ0 qQ1 fQ1 zQ qA0 fA0 qA1 fA1 zA qM0 fM0 qM1 fM1 zM
  have HR := Lib.hid (HR.out.grows hg (by intro hh; injection hh with hh; exact ne_R_s hh.symm))
  have HQ := Lib.hid (HQ.out.grows hg (by intro hh; injection hh with hh; exact ne_Q_s hh.symm))
  have HA := Lib.hid (HA.out.grows hg (by intro hh; injection hh with hh; exact ne_A_s hh.symm))
  have HM := Lib.hid (HM.out.grows hg (by intro hh; injection hh with hh; exact ne_M_s hh.symm))
  have HB := Lib.hid (Below.grown HB.out hg HB.out.size (fun k hk => by injection hk with hk; omega))
  have HSR := Lib.hid hs
  clear hg hs
  by_cases hv0 : v = 0
  · subst hv0
    clear HSR
    obtain ⟨⟨qR0, qR1⟩, ⟨fR0, fR1⟩, zR⟩ := HR.out
    obtain ⟨⟨qQ0, qQ1⟩, ⟨fQ0, fQ1⟩, zQ⟩ := HQ.out
    obtain ⟨⟨qA0, qA1⟩, ⟨fA0, fA1⟩, zA⟩ := HA.out
    obtain ⟨⟨qM0, qM1⟩, ⟨fM0, fM1⟩, zM⟩ := HM.out
    go_upto_region 9 with fail
    obtain ⟨w7, hw7⟩ : ∃ wx, wx = ((w6.setCell ⟨GM, 0, none⟩ (.int .i64 x0)).setCell ⟨GM, 1, none⟩ (.int .i64 y0)) := ⟨_, rfl⟩
    rw [← hw7]
    clear qR0 fR0 qR1 fR1 zR qQ0 fQ0 qQ1 fQ1 zQ qA0 fA0 qA1 fA1 zA qM0 fM0 qM1 fM1 zM
    have HR := Lib.hid ((HR.out.far ⟨GM, 0, none⟩ (.int .i64 x0) (by show GR ≠ GM; exact ne_R_M)).far ⟨GM, 1, none⟩ (.int .i64 y0) (by show GR ≠ GM; exact ne_R_M))
    have HQ := Lib.hid ((HQ.out.far ⟨GM, 0, none⟩ (.int .i64 x0) (by show GQ ≠ GM; exact ne_Q_M)).far ⟨GM, 1, none⟩ (.int .i64 y0) (by show GQ ≠ GM; exact ne_Q_M))
    have HA := Lib.hid ((HA.out.far ⟨GM, 0, none⟩ (.int .i64 x0) (by show GA ≠ GM; exact ne_A_M)).far ⟨GM, 1, none⟩ (.int .i64 y0) (by show GA ≠ GM; exact ne_A_M))
    have HM := Lib.hid ((HM.out.set0 x0).set1 y0)
    have HB := Lib.hid (Below.setCell (Below.setCell HB.out (p := ⟨GM, 0, none⟩) le_M (.int .i64 x0)) (p := ⟨GM, 1, none⟩) le_M (.int .i64 y0))
    rw [← hw7] at HR HQ HA HM HB
    clear hw7
    go_wp2_with fail
    refine wp_region_held_drew (S := fun W => Below w.heap.size w W ∧ Bk2 W GA x0 y0 ∧ Bk2 W GM x0 y0) (by kernel_rfl) ?_ (fun hHeld => ?_); focus ((try dsimp only); exact ⟨Below.drew HB.out, HA.out.below (Below.drew (Below.refl _ _)), HM.out.below (Below.drew (Below.refl _ _))⟩)
    have HR := Lib.hid (HR.out.below (Below.drew (Below.refl _ _)))
    have HQ := Lib.hid (HQ.out.below (Below.drew (Below.refl _ _)))
    have HA := Lib.hid (HA.out.below (Below.drew (Below.refl _ _)))
    have HM := Lib.hid (HM.out.below (Below.drew (Below.refl _ _)))
    have hHeld : (fun W => Below w.heap.size w W ∧ Bk2 W GA x0 y0 ∧ Bk2 W GM x0 y0) _ := hHeld
    obtain ⟨wD7, hwD7⟩ : ∃ wD, w7.drew = wD := ⟨_, rfl⟩
    rw [hwD7] at hHeld HR HQ HA HM ⊢
    clear hwD7
    (refine wpAnyH_take (i := 0) (v := ?_) rfl (by kernel_rfl) (by kernel_rfl) (by kernel_rfl) (fun _ _ _ h => h) (Or.inl ⟨rfl, ?_⟩) (by assumption) ?_; rotate_left; focus (intro W hSw; (try dsimp only at hSw); obtain ⟨hSb, hxA, hxM⟩ := hSw; obtain ⟨⟨iA0, iA1⟩, _, _⟩ := hxA; obtain ⟨⟨iM0, iM1⟩, _, _⟩ := hxM; go_simp; try (with_reducible rfl))); (try simp only [Act.put, List.getElem_toArray, List.getElem_cons_succ, List.getElem_cons_zero, List.setIfInBounds_toArray, List.set_cons_zero, List.set_cons_succ])
    (refine wpAnyH_take (i := 1) (v := ?_) rfl (by kernel_rfl) (by kernel_rfl) (by kernel_rfl) (fun _ _ _ h => h) (Or.inl ⟨rfl, ?_⟩) (by assumption) ?_; rotate_left; focus (intro W hSw; (try dsimp only at hSw); obtain ⟨hSb, hxA, hxM⟩ := hSw; obtain ⟨⟨iA0, iA1⟩, _, _⟩ := hxA; obtain ⟨⟨iM0, iM1⟩, _, _⟩ := hxM; go_simp; try (with_reducible rfl))); (try simp only [Act.put, List.getElem_toArray, List.getElem_cons_succ, List.getElem_cons_zero, List.setIfInBounds_toArray, List.set_cons_zero, List.set_cons_succ])
    refine wpAnyH_ready (rs := [2]) (by kernel_rfl) (by simp) ?_; refine AllReadyH.cons rfl (fun K hK => ?_) AllReadyH.nil
    obtain ⟨⟨a0, a1⟩, ⟨f0, f1⟩, az⟩ := HR.out; go_simp; clear a0 f0 a1 f1 az
    have HQ := Lib.hid ((HQ.out.far ⟨GR, 0, none⟩ (.int .i64 x0) (by show GQ ≠ GR; exact ne_Q_R)).far ⟨GR, 1, none⟩ (.int .i64 y0) (by show GQ ≠ GR; exact ne_Q_R))
    have HA := Lib.hid ((HA.out.far ⟨GR, 0, none⟩ (.int .i64 x0) (by show GA ≠ GR; exact ne_A_R)).far ⟨GR, 1, none⟩ (.int .i64 y0) (by show GA ≠ GR; exact ne_A_R))
    have HM := Lib.hid ((HM.out.far ⟨GR, 0, none⟩ (.int .i64 x0) (by show GM ≠ GR; exact ne_M_R)).far ⟨GR, 1, none⟩ (.int .i64 y0) (by show GM ≠ GR; exact ne_M_R))
    have HR := Lib.hid ((HR.out.set0 x0).set1 y0)
    refine hK.out _ _ ⟨(Below.setCell (Below.setCell hHeld.1 (p := ⟨GR, 0, none⟩) le_R _) (p := ⟨GR, 1, none⟩) le_R _), HA.out, HM.out⟩ (fun hHeld2 => ?_); (clear hHeld; rename _ => hHeld; clear hK K; have hHeld : (fun W => Below w.heap.size w W ∧ Bk2 W GA x0 y0 ∧ Bk2 W GM x0 y0) _ := hHeld); (try simp only [Act.put, List.getElem_toArray, List.getElem_cons_succ, List.getElem_cons_zero, List.setIfInBounds_toArray, List.set_cons_zero, List.set_cons_succ])
    obtain ⟨ywr7x0, hwx⟩ : ∃ wx, (wD7.setCell ⟨GR, 0, none⟩ (.int .i64 x0)).setCell ⟨GR, 1, none⟩ (.int .i64 y0) = wx := ⟨_, rfl⟩; rw [hwx] at HR HQ HA HM hHeld ⊢; clear hwx
    refine wpAnyH_ready (rs := [3]) (by kernel_rfl) (by simp) ?_; refine AllReadyH.cons rfl (fun K hK => ?_) AllReadyH.nil
    obtain ⟨⟨a0, a1⟩, ⟨f0, f1⟩, az⟩ := HQ.out; go_simp; clear a0 f0 a1 f1 az
    have HR := Lib.hid ((HR.out.far ⟨GQ, 0, none⟩ (.int .i64 x0) (by show GR ≠ GQ; exact ne_R_Q)).far ⟨GQ, 1, none⟩ (.int .i64 y0) (by show GR ≠ GQ; exact ne_R_Q))
    have HA := Lib.hid ((HA.out.far ⟨GQ, 0, none⟩ (.int .i64 x0) (by show GA ≠ GQ; exact ne_A_Q)).far ⟨GQ, 1, none⟩ (.int .i64 y0) (by show GA ≠ GQ; exact ne_A_Q))
    have HM := Lib.hid ((HM.out.far ⟨GQ, 0, none⟩ (.int .i64 x0) (by show GM ≠ GQ; exact ne_M_Q)).far ⟨GQ, 1, none⟩ (.int .i64 y0) (by show GM ≠ GQ; exact ne_M_Q))
    have HQ := Lib.hid ((HQ.out.set0 x0).set1 y0)
    refine hK.out _ _ ⟨(Below.setCell (Below.setCell hHeld.1 (p := ⟨GQ, 0, none⟩) le_Q _) (p := ⟨GQ, 1, none⟩) le_Q _), HA.out, HM.out⟩ (fun hHeld2 => ?_); (clear hHeld; rename _ => hHeld; clear hK K; have hHeld : (fun W => Below w.heap.size w W ∧ Bk2 W GA x0 y0 ∧ Bk2 W GM x0 y0) _ := hHeld); (try simp only [Act.put, List.getElem_toArray, List.getElem_cons_succ, List.getElem_cons_zero, List.setIfInBounds_toArray, List.set_cons_zero, List.set_cons_succ])
    obtain ⟨ywr7x1, hwx⟩ : ∃ wx, (ywr7x0.setCell ⟨GQ, 0, none⟩ (.int .i64 x0)).setCell ⟨GQ, 1, none⟩ (.int .i64 y0) = wx := ⟨_, rfl⟩; rw [hwx] at HR HQ HA HM hHeld ⊢; clear hwx
    refine wpAnyH_done (by kernel_rfl) ?_ _
    have HB := Lib.hid (hHeld.1)
    clear hHeld
    obtain ⟨⟨qR0, qR1⟩, ⟨fR0, fR1⟩, zR⟩ := HR.out
    obtain ⟨⟨qQ0, qQ1⟩, ⟨fQ0, fQ1⟩, zQ⟩ := HQ.out
    obtain ⟨⟨qA0, qA1⟩, ⟨fA0, fA1⟩, zA⟩ := HA.out
    obtain ⟨⟨qM0, qM1⟩, ⟨fM0, fM1⟩, zM⟩ := HM.out
    go_wp2_with fail
    refine bodyPost_ret (v := .tuple #[.agg #[.int .i64 x0, .int .i64 y0], .agg #[.int .i64 x0, .int .i64 y0]]) (by simp (maxDischargeDepth := 8) [results, Try.results20, go_sem, *]) rfl ?_
    have hb := HB.out
    exact ⟨x0, y0, x0, y0, rfl, hb⟩
  · by_cases hv1 : v = 1
    · subst hv1
      obtain ⟨⟨qR0, qR1⟩, ⟨fR0, fR1⟩, zR⟩ := HR.out
      obtain ⟨⟨qQ0, qQ1⟩, ⟨fQ0, fQ1⟩, zQ⟩ := HQ.out
      obtain ⟨⟨qA0, qA1⟩, ⟨fA0, fA1⟩, zA⟩ := HA.out
      obtain ⟨⟨qM0, qM1⟩, ⟨fM0, fM1⟩, zM⟩ := HM.out
      go_wp2_with fail
      go_at_call 31
      refine (l01Spoil_any _ a n cap _ HSR.out).mono ?_
      rintro e w7 ⟨p, q, rfl, hg, hs⟩
      clear qR0 fR0 qR1 fR1 zR qQ0 fQ0 qQ1 fQ1 zQ qA0 fA0 qA1 fA1 zA qM0 fM0 qM1 fM1 zM
      have HR := Lib.hid (HR.out.grows hg (by intro hh; injection hh with hh; exact ne_R_s hh.symm))
      have HQ := Lib.hid (HQ.out.grows hg (by intro hh; injection hh with hh; exact ne_Q_s hh.symm))
      have HA := Lib.hid (HA.out.grows hg (by intro hh; injection hh with hh; exact ne_A_s hh.symm))
      have HM := Lib.hid (HM.out.grows hg (by intro hh; injection hh with hh; exact ne_M_s hh.symm))
      have HB := Lib.hid (Below.grown HB.out hg HB.out.size (fun k hk => by injection hk with hk; omega))
      have HSR := Lib.hid hs
      clear hg hs
      clear HSR
      obtain ⟨⟨qR0, qR1⟩, ⟨fR0, fR1⟩, zR⟩ := HR.out
      obtain ⟨⟨qQ0, qQ1⟩, ⟨fQ0, fQ1⟩, zQ⟩ := HQ.out
      obtain ⟨⟨qA0, qA1⟩, ⟨fA0, fA1⟩, zA⟩ := HA.out
      obtain ⟨⟨qM0, qM1⟩, ⟨fM0, fM1⟩, zM⟩ := HM.out
      go_upto_region 9 with fail
      obtain ⟨w8, hw8⟩ : ∃ wx, wx = ((w7.setCell ⟨GA, 0, none⟩ (.int .i64 p)).setCell ⟨GA, 1, none⟩ (.int .i64 q)) := ⟨_, rfl⟩
      rw [← hw8]
      clear qR0 fR0 qR1 fR1 zR qQ0 fQ0 qQ1 fQ1 zQ qA0 fA0 qA1 fA1 zA qM0 fM0 qM1 fM1 zM
      have HR := Lib.hid ((HR.out.far ⟨GA, 0, none⟩ (.int .i64 p) (by show GR ≠ GA; exact ne_R_A)).far ⟨GA, 1, none⟩ (.int .i64 q) (by show GR ≠ GA; exact ne_R_A))
      have HQ := Lib.hid ((HQ.out.far ⟨GA, 0, none⟩ (.int .i64 p) (by show GQ ≠ GA; exact ne_Q_A)).far ⟨GA, 1, none⟩ (.int .i64 q) (by show GQ ≠ GA; exact ne_Q_A))
      have HM := Lib.hid ((HM.out.far ⟨GA, 0, none⟩ (.int .i64 p) (by show GM ≠ GA; exact ne_M_A)).far ⟨GA, 1, none⟩ (.int .i64 q) (by show GM ≠ GA; exact ne_M_A))
      have HA := Lib.hid ((HA.out.set0 p).set1 q)
      have HB := Lib.hid (Below.setCell (Below.setCell HB.out (p := ⟨GA, 0, none⟩) le_A (.int .i64 p)) (p := ⟨GA, 1, none⟩) le_A (.int .i64 q))
      rw [← hw8] at HR HQ HA HM HB
      clear hw8
      go_wp2_with fail
      refine wp_region_held_drew (S := fun W => Below w.heap.size w W ∧ Bk2 W GA p q ∧ Bk2 W GM x1 y1) (by kernel_rfl) ?_ (fun hHeld => ?_); focus ((try dsimp only); exact ⟨Below.drew HB.out, HA.out.below (Below.drew (Below.refl _ _)), HM.out.below (Below.drew (Below.refl _ _))⟩)
      have HR := Lib.hid (HR.out.below (Below.drew (Below.refl _ _)))
      have HQ := Lib.hid (HQ.out.below (Below.drew (Below.refl _ _)))
      have HA := Lib.hid (HA.out.below (Below.drew (Below.refl _ _)))
      have HM := Lib.hid (HM.out.below (Below.drew (Below.refl _ _)))
      have hHeld : (fun W => Below w.heap.size w W ∧ Bk2 W GA p q ∧ Bk2 W GM x1 y1) _ := hHeld
      obtain ⟨wD8, hwD8⟩ : ∃ wD, w8.drew = wD := ⟨_, rfl⟩
      rw [hwD8] at hHeld HR HQ HA HM ⊢
      clear hwD8
      (refine wpAnyH_take (i := 0) (v := ?_) rfl (by kernel_rfl) (by kernel_rfl) (by kernel_rfl) (fun _ _ _ h => h) (Or.inl ⟨rfl, ?_⟩) (by assumption) ?_; rotate_left; focus (intro W hSw; (try dsimp only at hSw); obtain ⟨hSb, hxA, hxM⟩ := hSw; obtain ⟨⟨iA0, iA1⟩, _, _⟩ := hxA; obtain ⟨⟨iM0, iM1⟩, _, _⟩ := hxM; go_simp; try (with_reducible rfl))); (try simp only [Act.put, List.getElem_toArray, List.getElem_cons_succ, List.getElem_cons_zero, List.setIfInBounds_toArray, List.set_cons_zero, List.set_cons_succ])
      (refine wpAnyH_take (i := 1) (v := ?_) rfl (by kernel_rfl) (by kernel_rfl) (by kernel_rfl) (fun _ _ _ h => h) (Or.inl ⟨rfl, ?_⟩) (by assumption) ?_; rotate_left; focus (intro W hSw; (try dsimp only at hSw); obtain ⟨hSb, hxA, hxM⟩ := hSw; obtain ⟨⟨iA0, iA1⟩, _, _⟩ := hxA; obtain ⟨⟨iM0, iM1⟩, _, _⟩ := hxM; go_simp; try (with_reducible rfl))); (try simp only [Act.put, List.getElem_toArray, List.getElem_cons_succ, List.getElem_cons_zero, List.setIfInBounds_toArray, List.set_cons_zero, List.set_cons_succ])
      refine wpAnyH_ready (rs := [2]) (by kernel_rfl) (by simp) ?_; refine AllReadyH.cons rfl (fun K hK => ?_) AllReadyH.nil
      obtain ⟨⟨a0, a1⟩, ⟨f0, f1⟩, az⟩ := HR.out; go_simp; clear a0 f0 a1 f1 az
      have HQ := Lib.hid ((HQ.out.far ⟨GR, 0, none⟩ (.int .i64 p) (by show GQ ≠ GR; exact ne_Q_R)).far ⟨GR, 1, none⟩ (.int .i64 q) (by show GQ ≠ GR; exact ne_Q_R))
      have HA := Lib.hid ((HA.out.far ⟨GR, 0, none⟩ (.int .i64 p) (by show GA ≠ GR; exact ne_A_R)).far ⟨GR, 1, none⟩ (.int .i64 q) (by show GA ≠ GR; exact ne_A_R))
      have HM := Lib.hid ((HM.out.far ⟨GR, 0, none⟩ (.int .i64 p) (by show GM ≠ GR; exact ne_M_R)).far ⟨GR, 1, none⟩ (.int .i64 q) (by show GM ≠ GR; exact ne_M_R))
      have HR := Lib.hid ((HR.out.set0 p).set1 q)
      refine hK.out _ _ ⟨(Below.setCell (Below.setCell hHeld.1 (p := ⟨GR, 0, none⟩) le_R _) (p := ⟨GR, 1, none⟩) le_R _), HA.out, HM.out⟩ (fun hHeld2 => ?_); (clear hHeld; rename _ => hHeld; clear hK K; have hHeld : (fun W => Below w.heap.size w W ∧ Bk2 W GA p q ∧ Bk2 W GM x1 y1) _ := hHeld); (try simp only [Act.put, List.getElem_toArray, List.getElem_cons_succ, List.getElem_cons_zero, List.setIfInBounds_toArray, List.set_cons_zero, List.set_cons_succ])
      obtain ⟨ywr8x0, hwx⟩ : ∃ wx, (wD8.setCell ⟨GR, 0, none⟩ (.int .i64 p)).setCell ⟨GR, 1, none⟩ (.int .i64 q) = wx := ⟨_, rfl⟩; rw [hwx] at HR HQ HA HM hHeld ⊢; clear hwx
      refine wpAnyH_ready (rs := [3]) (by kernel_rfl) (by simp) ?_; refine AllReadyH.cons rfl (fun K hK => ?_) AllReadyH.nil
      obtain ⟨⟨a0, a1⟩, ⟨f0, f1⟩, az⟩ := HQ.out; go_simp; clear a0 f0 a1 f1 az
      have HR := Lib.hid ((HR.out.far ⟨GQ, 0, none⟩ (.int .i64 x1) (by show GR ≠ GQ; exact ne_R_Q)).far ⟨GQ, 1, none⟩ (.int .i64 y1) (by show GR ≠ GQ; exact ne_R_Q))
      have HA := Lib.hid ((HA.out.far ⟨GQ, 0, none⟩ (.int .i64 x1) (by show GA ≠ GQ; exact ne_A_Q)).far ⟨GQ, 1, none⟩ (.int .i64 y1) (by show GA ≠ GQ; exact ne_A_Q))
      have HM := Lib.hid ((HM.out.far ⟨GQ, 0, none⟩ (.int .i64 x1) (by show GM ≠ GQ; exact ne_M_Q)).far ⟨GQ, 1, none⟩ (.int .i64 y1) (by show GM ≠ GQ; exact ne_M_Q))
      have HQ := Lib.hid ((HQ.out.set0 x1).set1 y1)
      refine hK.out _ _ ⟨(Below.setCell (Below.setCell hHeld.1 (p := ⟨GQ, 0, none⟩) le_Q _) (p := ⟨GQ, 1, none⟩) le_Q _), HA.out, HM.out⟩ (fun hHeld2 => ?_); (clear hHeld; rename _ => hHeld; clear hK K; have hHeld : (fun W => Below w.heap.size w W ∧ Bk2 W GA p q ∧ Bk2 W GM x1 y1) _ := hHeld); (try simp only [Act.put, List.getElem_toArray, List.getElem_cons_succ, List.getElem_cons_zero, List.setIfInBounds_toArray, List.set_cons_zero, List.set_cons_succ])
      obtain ⟨ywr8x1, hwx⟩ : ∃ wx, (ywr8x0.setCell ⟨GQ, 0, none⟩ (.int .i64 x1)).setCell ⟨GQ, 1, none⟩ (.int .i64 y1) = wx := ⟨_, rfl⟩; rw [hwx] at HR HQ HA HM hHeld ⊢; clear hwx
      refine wpAnyH_done (by kernel_rfl) ?_ _
      have HB := Lib.hid (hHeld.1)
      clear hHeld
      obtain ⟨⟨qR0, qR1⟩, ⟨fR0, fR1⟩, zR⟩ := HR.out
      obtain ⟨⟨qQ0, qQ1⟩, ⟨fQ0, fQ1⟩, zQ⟩ := HQ.out
      obtain ⟨⟨qA0, qA1⟩, ⟨fA0, fA1⟩, zA⟩ := HA.out
      obtain ⟨⟨qM0, qM1⟩, ⟨fM0, fM1⟩, zM⟩ := HM.out
      go_wp2_with fail
      refine bodyPost_ret (v := .tuple #[.agg #[.int .i64 p, .int .i64 q], .agg #[.int .i64 x1, .int .i64 y1]]) (by simp (maxDischargeDepth := 8) [results, Try.results20, go_sem, *]) rfl ?_
      have hb := HB.out
      exact ⟨p, q, x1, y1, rfl, hb⟩
    · skip
      clear HSR
      go_wp2_with fail
      refine wp_region_held_drew (S := fun W => Below w.heap.size w W ∧ Bk2 W GA x0 y0 ∧ Bk2 W GM x1 y1) (by kernel_rfl) ?_ (fun hHeld => ?_); focus ((try dsimp only); exact ⟨Below.drew HB.out, HA.out.below (Below.drew (Below.refl _ _)), HM.out.below (Below.drew (Below.refl _ _))⟩)
      have HR := Lib.hid (HR.out.below (Below.drew (Below.refl _ _)))
      have HQ := Lib.hid (HQ.out.below (Below.drew (Below.refl _ _)))
      have HA := Lib.hid (HA.out.below (Below.drew (Below.refl _ _)))
      have HM := Lib.hid (HM.out.below (Below.drew (Below.refl _ _)))
      have hHeld : (fun W => Below w.heap.size w W ∧ Bk2 W GA x0 y0 ∧ Bk2 W GM x1 y1) _ := hHeld
      obtain ⟨wD6, hwD6⟩ : ∃ wD, w6.drew = wD := ⟨_, rfl⟩
      rw [hwD6] at hHeld HR HQ HA HM ⊢
      clear hwD6
      (refine wpAnyH_take (i := 0) (v := ?_) rfl (by kernel_rfl) (by kernel_rfl) (by kernel_rfl) (fun _ _ _ h => h) (Or.inl ⟨rfl, ?_⟩) (by assumption) ?_; rotate_left; focus (intro W hSw; (try dsimp only at hSw); obtain ⟨hSb, hxA, hxM⟩ := hSw; obtain ⟨⟨iA0, iA1⟩, _, _⟩ := hxA; obtain ⟨⟨iM0, iM1⟩, _, _⟩ := hxM; go_simp; try (with_reducible rfl))); (try simp only [Act.put, List.getElem_toArray, List.getElem_cons_succ, List.getElem_cons_zero, List.setIfInBounds_toArray, List.set_cons_zero, List.set_cons_succ])
      (refine wpAnyH_take (i := 1) (v := ?_) rfl (by kernel_rfl) (by kernel_rfl) (by kernel_rfl) (fun _ _ _ h => h) (Or.inl ⟨rfl, ?_⟩) (by assumption) ?_; rotate_left; focus (intro W hSw; (try dsimp only at hSw); obtain ⟨hSb, hxA, hxM⟩ := hSw; obtain ⟨⟨iA0, iA1⟩, _, _⟩ := hxA; obtain ⟨⟨iM0, iM1⟩, _, _⟩ := hxM; go_simp; try (with_reducible rfl))); (try simp only [Act.put, List.getElem_toArray, List.getElem_cons_succ, List.getElem_cons_zero, List.setIfInBounds_toArray, List.set_cons_zero, List.set_cons_succ])
      refine wpAnyH_ready (rs := [2]) (by kernel_rfl) (by simp) ?_; refine AllReadyH.cons rfl (fun K hK => ?_) AllReadyH.nil
      obtain ⟨⟨a0, a1⟩, ⟨f0, f1⟩, az⟩ := HR.out; go_simp; clear a0 f0 a1 f1 az
      have HQ := Lib.hid ((HQ.out.far ⟨GR, 0, none⟩ (.int .i64 x0) (by show GQ ≠ GR; exact ne_Q_R)).far ⟨GR, 1, none⟩ (.int .i64 y0) (by show GQ ≠ GR; exact ne_Q_R))
      have HA := Lib.hid ((HA.out.far ⟨GR, 0, none⟩ (.int .i64 x0) (by show GA ≠ GR; exact ne_A_R)).far ⟨GR, 1, none⟩ (.int .i64 y0) (by show GA ≠ GR; exact ne_A_R))
      have HM := Lib.hid ((HM.out.far ⟨GR, 0, none⟩ (.int .i64 x0) (by show GM ≠ GR; exact ne_M_R)).far ⟨GR, 1, none⟩ (.int .i64 y0) (by show GM ≠ GR; exact ne_M_R))
      have HR := Lib.hid ((HR.out.set0 x0).set1 y0)
      refine hK.out _ _ ⟨(Below.setCell (Below.setCell hHeld.1 (p := ⟨GR, 0, none⟩) le_R _) (p := ⟨GR, 1, none⟩) le_R _), HA.out, HM.out⟩ (fun hHeld2 => ?_); (clear hHeld; rename _ => hHeld; clear hK K; have hHeld : (fun W => Below w.heap.size w W ∧ Bk2 W GA x0 y0 ∧ Bk2 W GM x1 y1) _ := hHeld); (try simp only [Act.put, List.getElem_toArray, List.getElem_cons_succ, List.getElem_cons_zero, List.setIfInBounds_toArray, List.set_cons_zero, List.set_cons_succ])
      obtain ⟨ywr6x0, hwx⟩ : ∃ wx, (wD6.setCell ⟨GR, 0, none⟩ (.int .i64 x0)).setCell ⟨GR, 1, none⟩ (.int .i64 y0) = wx := ⟨_, rfl⟩; rw [hwx] at HR HQ HA HM hHeld ⊢; clear hwx
      refine wpAnyH_ready (rs := [3]) (by kernel_rfl) (by simp) ?_; refine AllReadyH.cons rfl (fun K hK => ?_) AllReadyH.nil
      obtain ⟨⟨a0, a1⟩, ⟨f0, f1⟩, az⟩ := HQ.out; go_simp; clear a0 f0 a1 f1 az
      have HR := Lib.hid ((HR.out.far ⟨GQ, 0, none⟩ (.int .i64 x1) (by show GR ≠ GQ; exact ne_R_Q)).far ⟨GQ, 1, none⟩ (.int .i64 y1) (by show GR ≠ GQ; exact ne_R_Q))
      have HA := Lib.hid ((HA.out.far ⟨GQ, 0, none⟩ (.int .i64 x1) (by show GA ≠ GQ; exact ne_A_Q)).far ⟨GQ, 1, none⟩ (.int .i64 y1) (by show GA ≠ GQ; exact ne_A_Q))
      have HM := Lib.hid ((HM.out.far ⟨GQ, 0, none⟩ (.int .i64 x1) (by show GM ≠ GQ; exact ne_M_Q)).far ⟨GQ, 1, none⟩ (.int .i64 y1) (by show GM ≠ GQ; exact ne_M_Q))
      have HQ := Lib.hid ((HQ.out.set0 x1).set1 y1)
      refine hK.out _ _ ⟨(Below.setCell (Below.setCell hHeld.1 (p := ⟨GQ, 0, none⟩) le_Q _) (p := ⟨GQ, 1, none⟩) le_Q _), HA.out, HM.out⟩ (fun hHeld2 => ?_); (clear hHeld; rename _ => hHeld; clear hK K; have hHeld : (fun W => Below w.heap.size w W ∧ Bk2 W GA x0 y0 ∧ Bk2 W GM x1 y1) _ := hHeld); (try simp only [Act.put, List.getElem_toArray, List.getElem_cons_succ, List.getElem_cons_zero, List.setIfInBounds_toArray, List.set_cons_zero, List.set_cons_succ])
      obtain ⟨ywr6x1, hwx⟩ : ∃ wx, (ywr6x0.setCell ⟨GQ, 0, none⟩ (.int .i64 x1)).setCell ⟨GQ, 1, none⟩ (.int .i64 y1) = wx := ⟨_, rfl⟩; rw [hwx] at HR HQ HA HM hHeld ⊢; clear hwx
      refine wpAnyH_done (by kernel_rfl) ?_ _
      have HB := Lib.hid (hHeld.1)
      clear hHeld
      obtain ⟨⟨qR0, qR1⟩, ⟨fR0, fR1⟩, zR⟩ := HR.out
      obtain ⟨⟨qQ0, qQ1⟩, ⟨fQ0, fQ1⟩, zQ⟩ := HQ.out
      obtain ⟨⟨qA0, qA1⟩, ⟨fA0, fA1⟩, zA⟩ := HA.out
      obtain ⟨⟨qM0, qM1⟩, ⟨fM0, fM1⟩, zM⟩ := HM.out
      go_wp2_with fail
      refine bodyPost_ret (v := .tuple #[.agg #[.int .i64 x0, .int .i64 y0], .agg #[.int .i64 x1, .int .i64 y1]]) (by simp (maxDischargeDepth := 8) [results, Try.results20, go_sem, *]) rfl ?_
      have hb := HB.out
      exact ⟨x0, y0, x1, y1, rfl, hb⟩
set_option maxHeartbeats 4000000 in
theorem DrawReducePair_any (a : Option Addr) (n cap : Nat) (w : World) (hn : n ≤ 9223372036854775807) (hb : Byt w w.heap.size a n) :
    Calls Try.prog 5 #[.slice a n cap] w fun e w' => ∃ x0 y0 x1 y1 : Int, e = .returned (.tuple #[.agg #[.int .i64 x0, .int .i64 y0], .agg #[.int .i64 x1, .int .i64 y1]]) ∧ Below w.heap.size w w' := by
  have CL : Hid (∀ W, Below w.heap.size w W → Calls Try.prog 20 #[.slice a n cap] W fun e w' => ∃ x0 y0 x1 y1 : Int, e = .returned (.tuple #[.agg #[.int .i64 x0, .int .i64 y0], .agg #[.int .i64 x1, .int .i64 y1]]) ∧ Below W.heap.size W w') := fun W hW => l10Points_any a n cap W hn (hb.over hW)
  clear hb
  obtain ⟨GR, hG⟩ : ∃ G, w.heap.size = G := ⟨_, rfl⟩
  have HG := Lib.hid hG
  go_enter Try.func5, Try.ntmps5
  go_upto_region 1 with fail
  obtain ⟨w0, hw0⟩ : ∃ w0, w0 = ((w.alloc (.cells #[.int .i64 0, .int .i64 0] 25)).alloc (.cells #[.int .i64 0, .int .i64 0] 25)) := ⟨_, rfl⟩
  rw [← hw0]
  have HR : Hid (Bk2 w0 GR 0 0) := by
    have h := (bk2_new w 0 0 25).below (W' := ((w.alloc (.cells #[.int .i64 0, .int .i64 0] 25)).alloc (.cells #[.int .i64 0, .int .i64 0] 25))) (by (repeat' (first | (with_reducible exact Below.refl _ _) | (with_reducible refine Below.alloc ?_ ?_ _) | (with_reducible refine Below.setCell ?_ ?_ _) | (with_reducible refine Below.drew ?_) | (with_reducible refine below_drewN ?_ _) | (with_reducible assumption) | (with_reducible refine below_after (by with_reducible assumption) ?_) | go_size)))
    (try simp only [World.size_alloc] at h)
    rw [hG] at h
    rw [hw0]; exact h
  have HQ : Hid (Bk2 w0 (GR + 1) 0 0) := by
    have h := (bk2_new (w.alloc (.cells #[.int .i64 0, .int .i64 0] 25)) 0 0 25).below (W' := ((w.alloc (.cells #[.int .i64 0, .int .i64 0] 25)).alloc (.cells #[.int .i64 0, .int .i64 0] 25))) (by (repeat' (first | (with_reducible exact Below.refl _ _) | (with_reducible refine Below.alloc ?_ ?_ _) | (with_reducible refine Below.setCell ?_ ?_ _) | (with_reducible refine Below.drew ?_) | (with_reducible refine below_drewN ?_ _) | (with_reducible assumption) | (with_reducible refine below_after (by with_reducible assumption) ?_) | go_size)))
    (try simp only [World.size_alloc] at h)
    rw [hG] at h
    rw [hw0]; exact h
  have HB : Hid (Below w.heap.size w w0) := by show Below w.heap.size w w0; rw [hw0]; (repeat' (first | (with_reducible exact Below.refl _ _) | (with_reducible refine Below.alloc ?_ ?_ _) | (with_reducible refine Below.setCell ?_ ?_ _) | (with_reducible refine Below.drew ?_) | (with_reducible refine below_drewN ?_ _) | (with_reducible assumption) | (with_reducible refine below_after (by with_reducible assumption) ?_) | go_size))
  clear hw0
  obtain ⟨GQ, hGQ⟩ : ∃ g, GR + 1 = g := ⟨_, rfl⟩
  rw [hGQ] at HQ ⊢
  have le_R : w.heap.size ≤ GR := by omega
  have le_Q : w.heap.size ≤ GQ := by omega
  have ne_Q_R : GQ ≠ GR := by omega
  have ne_R_Q : GR ≠ GQ := by omega
  clear hGQ
  obtain ⟨⟨qR0, qR1⟩, ⟨fR0, fR1⟩, zR⟩ := HR.out
  obtain ⟨⟨qQ0, qQ1⟩, ⟨fQ0, fQ1⟩, zQ⟩ := HQ.out
  go_wp2_with fail
  go_at_call 20
  refine (CL.out _ HB.out).mono ?_
  rintro e w1 ⟨x0, y0, x1, y1, rfl, hb⟩
  clear qR0 fR0 qR1 fR1 zR qQ0 fQ0 qQ1 fQ1 zQ
  have HR := Lib.hid (HR.out.below hb)
  have HQ := Lib.hid (HQ.out.below hb)
  have HB := Lib.hid (below_after hb HB.out)
  clear hb
  have KB := (Below.setCell (Below.setCell (Below.setCell (Below.setCell HB.out (p := ⟨GR, 0, none⟩) le_R (.int .i64 x0)) (p := ⟨GR, 1, none⟩) le_R (.int .i64 y0)) (p := ⟨GQ, 0, none⟩) le_Q (.int .i64 x1)) (p := ⟨GQ, 1, none⟩) le_Q (.int .i64 y1))
  obtain ⟨⟨qR0, qR1⟩, ⟨fR0, fR1⟩, zR⟩ := HR.out
  obtain ⟨⟨qQ0, qQ1⟩, ⟨fQ0, fQ1⟩, zQ⟩ := HQ.out
  go_wp2_with fail
  refine bodyPost_ret (v := .tuple #[.agg #[.int .i64 x0, .int .i64 y0], .agg #[.int .i64 x1, .int .i64 y1]]) (by simp (maxDischargeDepth := 8) [results, Try.results5, go_sem, *]) rfl ?_
  exact ⟨x0, y0, x1, y1, rfl, KB⟩
set_option maxHeartbeats 4000000 in
theorem DrawShortestNorm_any (a : Option Addr) (n cap : Nat) (w : World) (hn : n ≤ 9223372036854775807) (hb : Byt w w.heap.size a n) :
    Calls Try.prog 12 #[.slice a n cap] w fun e w' => ∃ x0 y0 x1 y1 : Int, e = .returned (.tuple #[.agg #[.int .i64 x0, .int .i64 y0], .agg #[.int .i64 x1, .int .i64 y1]]) ∧ Below w.heap.size w w' := by
  have CL : Hid (∀ W, Below w.heap.size w W → Calls Try.prog 20 #[.slice a n cap] W fun e w' => ∃ x0 y0 x1 y1 : Int, e = .returned (.tuple #[.agg #[.int .i64 x0, .int .i64 y0], .agg #[.int .i64 x1, .int .i64 y1]]) ∧ Below W.heap.size W w') := fun W hW => l10Points_any a n cap W hn (hb.over hW)
  clear hb
  obtain ⟨GR, hG⟩ : ∃ G, w.heap.size = G := ⟨_, rfl⟩
  have HG := Lib.hid hG
  go_enter Try.func12, Try.ntmps12
  go_upto_region 1 with fail
  obtain ⟨w0, hw0⟩ : ∃ w0, w0 = ((w.alloc (.cells #[.int .i64 0, .int .i64 0] 25)).alloc (.cells #[.int .i64 0, .int .i64 0] 25)) := ⟨_, rfl⟩
  rw [← hw0]
  have HR : Hid (Bk2 w0 GR 0 0) := by
    have h := (bk2_new w 0 0 25).below (W' := ((w.alloc (.cells #[.int .i64 0, .int .i64 0] 25)).alloc (.cells #[.int .i64 0, .int .i64 0] 25))) (by (repeat' (first | (with_reducible exact Below.refl _ _) | (with_reducible refine Below.alloc ?_ ?_ _) | (with_reducible refine Below.setCell ?_ ?_ _) | (with_reducible refine Below.drew ?_) | (with_reducible refine below_drewN ?_ _) | (with_reducible assumption) | (with_reducible refine below_after (by with_reducible assumption) ?_) | go_size)))
    (try simp only [World.size_alloc] at h)
    rw [hG] at h
    rw [hw0]; exact h
  have HQ : Hid (Bk2 w0 (GR + 1) 0 0) := by
    have h := (bk2_new (w.alloc (.cells #[.int .i64 0, .int .i64 0] 25)) 0 0 25).below (W' := ((w.alloc (.cells #[.int .i64 0, .int .i64 0] 25)).alloc (.cells #[.int .i64 0, .int .i64 0] 25))) (by (repeat' (first | (with_reducible exact Below.refl _ _) | (with_reducible refine Below.alloc ?_ ?_ _) | (with_reducible refine Below.setCell ?_ ?_ _) | (with_reducible refine Below.drew ?_) | (with_reducible refine below_drewN ?_ _) | (with_reducible assumption) | (with_reducible refine below_after (by with_reducible assumption) ?_) | go_size)))
    (try simp only [World.size_alloc] at h)
    rw [hG] at h
    rw [hw0]; exact h
  have HB : Hid (Below w.heap.size w w0) := by show Below w.heap.size w w0; rw [hw0]; (repeat' (first | (with_reducible exact Below.refl _ _) | (with_reducible refine Below.alloc ?_ ?_ _) | (with_reducible refine Below.setCell ?_ ?_ _) | (with_reducible refine Below.drew ?_) | (with_reducible refine below_drewN ?_ _) | (with_reducible assumption) | (with_reducible refine below_after (by with_reducible assumption) ?_) | go_size))
  clear hw0
  obtain ⟨GQ, hGQ⟩ : ∃ g, GR + 1 = g := ⟨_, rfl⟩
  rw [hGQ] at HQ ⊢
  have le_R : w.heap.size ≤ GR := by omega
  have le_Q : w.heap.size ≤ GQ := by omega
  have ne_Q_R : GQ ≠ GR := by omega
  have ne_R_Q : GR ≠ GQ := by omega
  clear hGQ
  obtain ⟨⟨qR0, qR1⟩, ⟨fR0, fR1⟩, zR⟩ := HR.out
  obtain ⟨⟨qQ0, qQ1⟩, ⟨fQ0, fQ1⟩, zQ⟩ := HQ.out
  go_wp2_with fail
  go_at_call 20
  refine (CL.out _ HB.out).mono ?_
  rintro e w1 ⟨x0, y0, x1, y1, rfl, hb⟩
  clear qR0 fR0 qR1 fR1 zR qQ0 fQ0 qQ1 fQ1 zQ
  have HR := Lib.hid (HR.out.below hb)
  have HQ := Lib.hid (HQ.out.below hb)
  have HB := Lib.hid (below_after hb HB.out)
  clear hb
  have KB := (Below.setCell (Below.setCell (Below.setCell (Below.setCell HB.out (p := ⟨GR, 0, none⟩) le_R (.int .i64 x0)) (p := ⟨GR, 1, none⟩) le_R (.int .i64 y0)) (p := ⟨GQ, 0, none⟩) le_Q (.int .i64 x1)) (p := ⟨GQ, 1, none⟩) le_Q (.int .i64 y1))
  obtain ⟨⟨qR0, qR1⟩, ⟨fR0, fR1⟩, zR⟩ := HR.out
  obtain ⟨⟨qQ0, qQ1⟩, ⟨fQ0, fQ1⟩, zQ⟩ := HQ.out
  go_wp2_with fail
  refine bodyPost_ret (v := .tuple #[.agg #[.int .i64 x0, .int .i64 y0], .agg #[.int .i64 x1, .int .i64 y1]]) (by simp (maxDischargeDepth := 8) [results, Try.results12, go_sem, *]) rfl ?_
  exact ⟨x0, y0, x1, y1, rfl, KB⟩
set_option maxHeartbeats 4000000 in
theorem DrawNormOf_any (a : Option Addr) (n cap : Nat) (w : World) (hn : n ≤ 9223372036854775807) (hb : Byt w w.heap.size a n) :
    Calls Try.prog 15 #[.slice a n cap] w fun e w' => ∃ x0 y0 : Int, e = .returned (.agg #[.int .i64 x0, .int .i64 y0]) ∧ Below w.heap.size w w' := by
  have CF : Hid (∀ W, Below w.heap.size w W → Calls Try.prog 25 #[.slice a n cap] W fun e w' => ∃ s, e = .returned (.pointer (some ⟨s, 0, none⟩)) ∧ Sr w' s a n cap ∧ (w.heap.size ≤ s ∧ W.heap.size ≤ s) ∧ Below W.heap.size W w') := fun W hW => (l01From_any a n cap W hn (hb.over hW)).mono (by rintro e w' ⟨rfl, h1, h2⟩; exact ⟨_, rfl, h2, ⟨hW.size, Nat.le_refl _⟩, h1⟩)
  clear hb
  obtain ⟨GR, hG⟩ : ∃ G, w.heap.size = G := ⟨_, rfl⟩
  have HG := Lib.hid hG
  go_enter Try.func15, Try.ntmps15
  go_upto_region 1 with fail
  obtain ⟨w0, hw0⟩ : ∃ w0, w0 = (w.alloc (.cells #[.int .i64 0, .int .i64 0] 25)) := ⟨_, rfl⟩
  rw [← hw0]
  have HR : Hid (Bk2 w0 GR 0 0) := by
    have h := (bk2_new w 0 0 25).below (W' := (w.alloc (.cells #[.int .i64 0, .int .i64 0] 25))) (by (repeat' (first | (with_reducible exact Below.refl _ _) | (with_reducible refine Below.alloc ?_ ?_ _) | (with_reducible refine Below.setCell ?_ ?_ _) | (with_reducible refine Below.drew ?_) | (with_reducible refine below_drewN ?_ _) | (with_reducible assumption) | (with_reducible refine below_after (by with_reducible assumption) ?_) | go_size)))
    (try simp only [World.size_alloc] at h)
    rw [hG] at h
    rw [hw0]; exact h
  have HB : Hid (Below w.heap.size w w0) := by show Below w.heap.size w w0; rw [hw0]; (repeat' (first | (with_reducible exact Below.refl _ _) | (with_reducible refine Below.alloc ?_ ?_ _) | (with_reducible refine Below.setCell ?_ ?_ _) | (with_reducible refine Below.drew ?_) | (with_reducible refine below_drewN ?_ _) | (with_reducible assumption) | (with_reducible refine below_after (by with_reducible assumption) ?_) | go_size))
  clear hw0
  have le_R : w.heap.size ≤ GR := by omega
  have zR0 := HR.out.2.2
  obtain ⟨⟨qR0, qR1⟩, ⟨fR0, fR1⟩, zR⟩ := HR.out
  go_wp2_with fail
  go_at_call 25
  refine (CF.out _ HB.out).mono ?_
  rintro e w1 ⟨sG, rfl, hs, hsl, hb⟩
  clear qR0 fR0 qR1 fR1 zR
  have HR := Lib.hid (HR.out.below hb)
  have HB := Lib.hid (below_after hb HB.out)
  clear hb
  have HSR := Lib.hid hs
  have le_s : w.heap.size ≤ sG := by have := hsl; omega
  have ne_R_s : GR ≠ sG := by omega
  clear hs
  obtain ⟨⟨qR0, qR1⟩, ⟨fR0, fR1⟩, zR⟩ := HR.out
  go_wp2_with fail
  go_at_call 31
  refine (l01Spoil_any _ a n cap _ HSR.out).mono ?_
  rintro e w2 ⟨p, q, rfl, hg, hs⟩
  clear qR0 fR0 qR1 fR1 zR
  have HR := Lib.hid (HR.out.grows hg (by intro hh; injection hh with hh; exact ne_R_s hh.symm))
  have HB := Lib.hid (Below.grown HB.out hg HB.out.size (fun k hk => by injection hk with hk; omega))
  have HSR := Lib.hid hs
  clear hg hs
  clear HSR
  have KB := (Below.setCell (Below.setCell HB.out (p := ⟨GR, 0, none⟩) le_R (.int .i64 p)) (p := ⟨GR, 1, none⟩) le_R (.int .i64 q))
  obtain ⟨⟨qR0, qR1⟩, ⟨fR0, fR1⟩, zR⟩ := HR.out
  go_wp2_with fail
  refine bodyPost_ret (v := .agg #[.int .i64 p, .int .i64 q]) (by simp (maxDischargeDepth := 8) [results, Try.results15, go_sem, *]) rfl ?_
  exact ⟨p, q, rfl, KB⟩
end Go.Proofs.Ytadikmjdmddkjaa
