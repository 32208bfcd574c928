/-
  The draws of pairs of points, the one that is asked for twice (own work).
-/
import Derived.Test.YtadikmjdmddkjaaFpD
namespace Go.Proofs.Ytadikmjdmddkjaa
open Go.ChangeShapes Go.WideShapes Go.ChangeAt Go.RowKit
set_option linter.unusedVariables false
set_option linter.unusedSimpArgs false
set_option maxRecDepth 100000

set_option maxHeartbeats 4000000 in
theorem DrawIsReducedPair_any (a : Option Addr) (n cap : Nat) (w : World) (hn : n ≤ 9223372036854775807) (hb : Byt w w.heap.size a n) :
    Calls Try.prog 9 #[.slice a n cap] w fun e w' => ∃ x0 y0 x1 y1 : Int, e = .returned (.tuple #[.agg #[.int .i64 x0, .int .i64 y0], .agg #[.int .i64 x1, .int .i64 y1]]) ∧ Below w.heap.size w w' := by
  have CF : Hid (∀ W, Below w.heap.size w W → Calls Try.prog 25 #[.slice a n cap] W fun e w' => ∃ s, e = .returned (.pointer (some ⟨s, 0, none⟩)) ∧ Sr w' s a n cap ∧ (w.heap.size ≤ s ∧ W.heap.size ≤ s) ∧ Below W.heap.size W w') := fun W hW => (l01From_any a n cap W hn (hb.over hW)).mono (by rintro e w' ⟨rfl, h1, h2⟩; exact ⟨_, rfl, h2, ⟨hW.size, Nat.le_refl _⟩, h1⟩)
  have CL : Hid (∀ W, Below w.heap.size w W → Calls Try.prog 20 #[.slice a n cap] W fun e w' => ∃ x0 y0 x1 y1 : Int, e = .returned (.tuple #[.agg #[.int .i64 x0, .int .i64 y0], .agg #[.int .i64 x1, .int .i64 y1]]) ∧ Below W.heap.size W w') := fun W hW => l10Points_any a n cap W hn (hb.over hW)
  clear hb
  obtain ⟨GR, hG⟩ : ∃ G, w.heap.size = G := ⟨_, rfl⟩
  have HG := Lib.hid hG
  go_enter Try.func9, Try.ntmps9
  go_upto_region 1 with fail
  obtain ⟨w0, hw0⟩ : ∃ w0, w0 = ((w.alloc (.cells #[.int .i64 0, .int .i64 0] 25)).alloc (.cells #[.int .i64 0, .int .i64 0] 25)) := ⟨_, rfl⟩
  rw [← hw0]
  have HR : Hid (Bk2 w0 GR 0 0) := by
    have h := (bk2_new w 0 0 25).below (W' := ((w.alloc (.cells #[.int .i64 0, .int .i64 0] 25)).alloc (.cells #[.int .i64 0, .int .i64 0] 25))) (by (repeat' (first | (with_reducible exact Below.refl _ _) | (with_reducible refine Below.alloc ?_ ?_ _) | (with_reducible refine Below.setCell ?_ ?_ _) | (with_reducible refine Below.drew ?_) | (with_reducible refine below_drewN ?_ _) | (with_reducible assumption) | (with_reducible refine below_after (by with_reducible assumption) ?_) | go_size)))
    (try simp only [World.size_alloc] at h)
    rw [hG] at h
    rw [hw0]; exact h
  have HQ : Hid (Bk2 w0 (GR + 1) 0 0) := by
    have h := (bk2_new (w.alloc (.cells #[.int .i64 0, .int .i64 0] 25)) 0 0 25).below (W' := ((w.alloc (.cells #[.int .i64 0, .int .i64 0] 25)).alloc (.cells #[.int .i64 0, .int .i64 0] 25))) (by (repeat' (first | (with_reducible exact Below.refl _ _) | (with_reducible refine Below.alloc ?_ ?_ _) | (with_reducible refine Below.setCell ?_ ?_ _) | (with_reducible refine Below.drew ?_) | (with_reducible refine below_drewN ?_ _) | (with_reducible assumption) | (with_reducible refine below_after (by with_reducible assumption) ?_) | go_size)))
    (try simp only [World.size_alloc] at h)
    rw [hG] at h
    rw [hw0]; exact h
  have HB : Hid (Below w.heap.size w w0) := by show Below w.heap.size w w0; rw [hw0]; (repeat' (first | (with_reducible exact Below.refl _ _) | (with_reducible refine Below.alloc ?_ ?_ _) | (with_reducible refine Below.setCell ?_ ?_ _) | (with_reducible refine Below.drew ?_) | (with_reducible refine below_drewN ?_ _) | (with_reducible assumption) | (with_reducible refine below_after (by with_reducible assumption) ?_) | go_size))
  clear hw0
  obtain ⟨GQ, hGQ⟩ : ∃ g, GR + 1 = g := ⟨_, rfl⟩
  rw [hGQ] at HQ ⊢
  have le_R : w.heap.size ≤ GR := by omega
  have le_Q : w.heap.size ≤ GQ := by omega
  have ne_Q_R : GQ ≠ GR := by omega
  have ne_R_Q : GR ≠ GQ := by omega
  clear hGQ
  have zR0 := HR.out.2.2
  have zQ0 := HQ.out.2.2
  obtain ⟨⟨qR0, qR1⟩, ⟨fR0, fR1⟩, zR⟩ := HR.out
  obtain ⟨⟨qQ0, qQ1⟩, ⟨fQ0, fQ1⟩, zQ⟩ := HQ.out
  go_wp2_with fail
  go_at_call 25
  refine (CF.out _ HB.out).mono ?_
  rintro e w1 ⟨sG, rfl, hs, hsl, hb⟩
  clear qR0 fR0 qR1 fR1 zR qQ0 fQ0 qQ1 fQ1 zQ
  have HR := Lib.hid (HR.out.below hb)
  have HQ := Lib.hid (HQ.out.below hb)
  have HB := Lib.hid (below_after hb HB.out)
  clear hb
  have HSR := Lib.hid hs
  have le_s : w.heap.size ≤ sG := by have := hsl; omega
  have ne_R_s : GR ≠ sG := by omega
  have ne_Q_s : GQ ≠ sG := by omega
  clear hs
  obtain ⟨⟨qR0, qR1⟩, ⟨fR0, fR1⟩, zR⟩ := HR.out
  obtain ⟨⟨qQ0, qQ1⟩, ⟨fQ0, fQ1⟩, zQ⟩ := HQ.out
  go_wp2_with fail
  go_at_call 20
  refine (CL.out _ HB.out).mono ?_
  rintro e w2 ⟨x0, y0, x1, y1, rfl, hb⟩
  clear qR0 fR0 qR1 fR1 zR qQ0 fQ0 qQ1 fQ1 zQ
  have HR := Lib.hid (HR.out.below hb)
  have HQ := Lib.hid (HQ.out.below hb)
  have HSR := Lib.hid (HSR.out.below hb)
  have HB := Lib.hid (below_after hb HB.out)
  clear hb
  obtain ⟨⟨qR0, qR1⟩, ⟨fR0, fR1⟩, zR⟩ := HR.out
  obtain ⟨⟨qQ0, qQ1⟩, ⟨fQ0, fQ1⟩, zQ⟩ := HQ.out
  go_upto_region 3 with fail
  obtain ⟨w3, hw3⟩ : ∃ wx, wx = (w2.alloc (.cells #[.int .i64 x0, .int .i64 y0] 25)).alloc (.cells #[.int .i64 x1, .int .i64 y1] 25) := ⟨_, rfl⟩
  rw [← hw3]
  obtain ⟨GA, hGA⟩ : ∃ g, w2.heap.size = g := ⟨_, rfl⟩
  have HA : Hid (Bk2 w3 GA x0 y0) := by
    have h := (bk2_new w2 x0 y0 25).below (W' := w3) (by rw [hw3]; (repeat' (first | (with_reducible exact Below.refl _ _) | (with_reducible refine Below.alloc ?_ ?_ _) | (with_reducible refine Below.setCell ?_ ?_ _) | (with_reducible refine Below.drew ?_) | (with_reducible refine below_drewN ?_ _) | (with_reducible assumption) | (with_reducible refine below_after (by with_reducible assumption) ?_) | go_size)))
    (try simp only [World.size_alloc] at h)
    rw [hGA] at h
    exact h
  have le_A : w.heap.size ≤ GA := by have := HB.out.size; omega
  have ne_A_R : GA ≠ GR := by have := HR.out.2.2; omega
  have ne_R_A : GR ≠ GA := Ne.symm ne_A_R
  have ne_A_Q : GA ≠ GQ := by have := HQ.out.2.2; omega
  have ne_Q_A : GQ ≠ GA := Ne.symm ne_A_Q
  have ne_A_s : GA ≠ sG := by have := HSR.out.lt; omega
  obtain ⟨GM, hGM⟩ : ∃ g, w2.heap.size + 1 = g := ⟨_, rfl⟩
  have HM : Hid (Bk2 w3 GM x1 y1) := by
    have h := (bk2_new (w2.alloc (.cells #[.int .i64 x0, .int .i64 y0] 25)) x1 y1 25).below (W' := w3) (by rw [hw3]; (repeat' (first | (with_reducible exact Below.refl _ _) | (with_reducible refine Below.alloc ?_ ?_ _) | (with_reducible refine Below.setCell ?_ ?_ _) | (with_reducible refine Below.drew ?_) | (with_reducible refine below_drewN ?_ _) | (with_reducible assumption) | (with_reducible refine below_after (by with_reducible assumption) ?_) | go_size)))
    (try simp only [World.size_alloc] at h)
    rw [hGM] at h
    exact h
  have le_M : w.heap.size ≤ GM := by have := HB.out.size; omega
  have ne_M_R : GM ≠ GR := by have := HR.out.2.2; omega
  have ne_R_M : GR ≠ GM := Ne.symm ne_M_R
  have ne_M_Q : GM ≠ GQ := by have := HQ.out.2.2; omega
  have ne_Q_M : GQ ≠ GM := Ne.symm ne_M_Q
  have ne_M_A : GM ≠ GA := by omega
  have ne_A_M : GA ≠ GM := Ne.symm ne_M_A
  have ne_M_s : GM ≠ sG := by have := HSR.out.lt; omega
  clear qR0 fR0 qR1 fR1 zR qQ0 fQ0 qQ1 fQ1 zQ
  have hbn : Below w2.heap.size w2 w3 := by rw [hw3]; (repeat' (first | (with_reducible exact Below.refl _ _) | (with_reducible refine Below.alloc ?_ ?_ _) | (with_reducible refine Below.setCell ?_ ?_ _) | (with_reducible refine Below.drew ?_) | (with_reducible refine below_drewN ?_ _) | (with_reducible assumption) | (with_reducible refine below_after (by with_reducible assumption) ?_) | go_size))
  have HR := Lib.hid (HR.out.below hbn)
  have HQ := Lib.hid (HQ.out.below hbn)
  have HSR := Lib.hid (HSR.out.below hbn)
  have HB := Lib.hid (below_after hbn HB.out)
  clear hbn
  rw [hGA] at hGM
  simp only [hGA]
  simp only [hGM]
  clear hw3 hGA hGM
  obtain ⟨C, hC⟩ : ∃ C, prC x0 y0 x1 y1 = C := ⟨_, rfl⟩
  have CC : Hid (∀ w, Calls Try.prog 23 #[.agg #[.int .i64 x0, .int .i64 y0], .agg #[.int .i64 x1, .int .i64 y1]] w fun e w' => e = .returned (.int .i64 C) ∧ Below w.heap.size w w') := fun w => by have := l10Pair_any x0 y0 x1 y1 w; rwa [hC] at this
  obtain ⟨⟨qR0, qR1⟩, ⟨fR0, fR1⟩, zR⟩ := HR.out
  obtain ⟨⟨qQ0, qQ1⟩, ⟨fQ0, fQ1⟩, zQ⟩ := HQ.out
  obtain ⟨⟨qA0, qA1⟩, ⟨fA0, fA1⟩, zA⟩ := HA.out
  obtain ⟨⟨qM0, qM1⟩, ⟨fM0, fM1⟩, zM⟩ := HM.out
  go_wp2_with fail
  go_at_call 23
  refine (CC.out _).mono ?_
  rintro e w4 ⟨rfl, hb⟩
  clear qR0 fR0 qR1 fR1 zR qQ0 fQ0 qQ1 fQ1 zQ qA0 fA0 qA1 fA1 zA qM0 fM0 qM1 fM1 zM
  have HR := Lib.hid (HR.out.below hb)
  have HQ := Lib.hid (HQ.out.below hb)
  have HA := Lib.hid (HA.out.below hb)
  have HM := Lib.hid (HM.out.below hb)
  have HSR := Lib.hid (HSR.out.below hb)
  have HB := Lib.hid (below_after hb HB.out)
  clear hb
  by_cases hc : C = 0
  · skip
    subst hc
    obtain ⟨⟨p0, p1⟩, hd⟩ := prC_ok hC
    have hk := rdOk_of p0 p1 hd
    have CR := Lib.hid (fun w => l10Reduce_any x0 y0 x1 y1 w hk)
    obtain ⟨⟨⟨u0, u1⟩, ⟨v0, v1⟩⟩, hV⟩ : ∃ V, rdV ((x0, y0), (x1, y1)) = V := ⟨_, rfl⟩
    rw [hV] at CR
    dsimp only at CR
    clear hC p0 p1 hd hk hV CC
    obtain ⟨⟨qR0, qR1⟩, ⟨fR0, fR1⟩, zR⟩ := HR.out
    obtain ⟨⟨qQ0, qQ1⟩, ⟨fQ0, fQ1⟩, zQ⟩ := HQ.out
    obtain ⟨⟨qA0, qA1⟩, ⟨fA0, fA1⟩, zA⟩ := HA.out
    obtain ⟨⟨qM0, qM1⟩, ⟨fM0, fM1⟩, zM⟩ := HM.out
    go_wp2_with fail
    go_at_call 26
    refine (l01Next_any _ a n cap 2 _ HSR.out).mono ?_
    rintro e w5 ⟨v, rfl, -, -, hg, hs⟩
    clear qR0 fR0 qR1 fR1 zR qQ0 fQ0 qQ1 fQ1 zQ qA0 fA0 qA1 fA1 zA qM0 fM0 qM1 fM1 zM
    have HR := Lib.hid (HR.out.grows hg (by intro hh; injection hh with hh; exact ne_R_s hh.symm))
    have HQ := Lib.hid (HQ.out.grows hg (by intro hh; injection hh with hh; exact ne_Q_s hh.symm))
    have HA := Lib.hid (HA.out.grows hg (by intro hh; injection hh with hh; exact ne_A_s hh.symm))
    have HM := Lib.hid (HM.out.grows hg (by intro hh; injection hh with hh; exact ne_M_s hh.symm))
    have HB := Lib.hid (Below.grown HB.out hg HB.out.size (fun k hk => by injection hk with hk; omega))
    have HSR := Lib.hid hs
    clear hg hs
    clear HSR
    by_cases hv0 : v = 0
    · subst hv0
      obtain ⟨⟨qR0, qR1⟩, ⟨fR0, fR1⟩, zR⟩ := HR.out
      obtain ⟨⟨qQ0, qQ1⟩, ⟨fQ0, fQ1⟩, zQ⟩ := HQ.out
      obtain ⟨⟨qA0, qA1⟩, ⟨fA0, fA1⟩, zA⟩ := HA.out
      obtain ⟨⟨qM0, qM1⟩, ⟨fM0, fM1⟩, zM⟩ := HM.out
      go_wp2_with fail
      go_at_call 24
      refine (CR.out _).mono ?_
      rintro e w6 ⟨rfl, hb⟩
      clear qR0 fR0 qR1 fR1 zR qQ0 fQ0 qQ1 fQ1 zQ qA0 fA0 qA1 fA1 zA qM0 fM0 qM1 fM1 zM
      have HR := Lib.hid (HR.out.below hb)
      have HQ := Lib.hid (HQ.out.below hb)
      have HA := Lib.hid (HA.out.below hb)
      have HM := Lib.hid (HM.out.below hb)
      have HB := Lib.hid (below_after hb HB.out)
      clear hb
      obtain ⟨⟨qR0, qR1⟩, ⟨fR0, fR1⟩, zR⟩ := HR.out
      obtain ⟨⟨qQ0, qQ1⟩, ⟨fQ0, fQ1⟩, zQ⟩ := HQ.out
      obtain ⟨⟨qA0, qA1⟩, ⟨fA0, fA1⟩, zA⟩ := HA.out
      obtain ⟨⟨qM0, qM1⟩, ⟨fM0, fM1⟩, zM⟩ := HM.out
      go_upto_region 5 with fail
      obtain ⟨w7, hw7⟩ : ∃ wx, wx = (w6.alloc (.cells #[.int .i64 u0, .int .i64 u1] 25)).alloc (.cells #[.int .i64 v0, .int .i64 v1] 25) := ⟨_, rfl⟩
      rw [← hw7]
      obtain ⟨GO, hGO⟩ : ∃ g, w6.heap.size = g := ⟨_, rfl⟩
      have HO : Hid (Bk2 w7 GO u0 u1) := by
        have h := (bk2_new w6 u0 u1 25).below (W' := w7) (by rw [hw7]; (repeat' (first | (with_reducible exact Below.refl _ _) | (with_reducible refine Below.alloc ?_ ?_ _) | (with_reducible refine Below.setCell ?_ ?_ _) | (with_reducible refine Below.drew ?_) | (with_reducible refine below_drewN ?_ _) | (with_reducible assumption) | (with_reducible refine below_after (by with_reducible assumption) ?_) | go_size)))
        (try simp only [World.size_alloc] at h)
        rw [hGO] at h
        exact h
      have le_O : w.heap.size ≤ GO := by have := HB.out.size; omega
      have ne_O_R : GO ≠ GR := by have := HR.out.2.2; omega
      have ne_R_O : GR ≠ GO := Ne.symm ne_O_R
      have ne_O_Q : GO ≠ GQ := by have := HQ.out.2.2; omega
      have ne_Q_O : GQ ≠ GO := Ne.symm ne_O_Q
      have ne_O_A : GO ≠ GA := by have := HA.out.2.2; omega
      have ne_A_O : GA ≠ GO := Ne.symm ne_O_A
      have ne_O_M : GO ≠ GM := by have := HM.out.2.2; omega
      have ne_M_O : GM ≠ GO := Ne.symm ne_O_M
      obtain ⟨GT, hGT⟩ : ∃ g, w6.heap.size + 1 = g := ⟨_, rfl⟩
      have HT : Hid (Bk2 w7 GT v0 v1) := by
        have h := (bk2_new (w6.alloc (.cells #[.int .i64 u0, .int .i64 u1] 25)) v0 v1 25).below (W' := w7) (by rw [hw7]; (repeat' (first | (with_reducible exact Below.refl _ _) | (with_reducible refine Below.alloc ?_ ?_ _) | (with_reducible refine Below.setCell ?_ ?_ _) | (with_reducible refine Below.drew ?_) | (with_reducible refine below_drewN ?_ _) | (with_reducible assumption) | (with_reducible refine below_after (by with_reducible assumption) ?_) | go_size)))
        (try simp only [World.size_alloc] at h)
        rw [hGT] at h
        exact h
      have le_T : w.heap.size ≤ GT := by have := HB.out.size; omega
      have ne_T_R : GT ≠ GR := by have := HR.out.2.2; omega
      have ne_R_T : GR ≠ GT := Ne.symm ne_T_R
      have ne_T_Q : GT ≠ GQ := by have := HQ.out.2.2; omega
      have ne_Q_T : GQ ≠ GT := Ne.symm ne_T_Q
      have ne_T_A : GT ≠ GA := by have := HA.out.2.2; omega
      have ne_A_T : GA ≠ GT := Ne.symm ne_T_A
      have ne_T_M : GT ≠ GM := by have := HM.out.2.2; omega
      have ne_M_T : GM ≠ GT := Ne.symm ne_T_M
      have ne_T_O : GT ≠ GO := by omega
      have ne_O_T : GO ≠ GT := Ne.symm ne_T_O
      clear qR0 fR0 qR1 fR1 zR qQ0 fQ0 qQ1 fQ1 zQ qA0 fA0 qA1 fA1 zA qM0 fM0 qM1 fM1 zM
      have hbn : Below w6.heap.size w6 w7 := by rw [hw7]; (repeat' (first | (with_reducible exact Below.refl _ _) | (with_reducible refine Below.alloc ?_ ?_ _) | (with_reducible refine Below.setCell ?_ ?_ _) | (with_reducible refine Below.drew ?_) | (with_reducible refine below_drewN ?_ _) | (with_reducible assumption) | (with_reducible refine below_after (by with_reducible assumption) ?_) | go_size))
      have HR := Lib.hid (HR.out.below hbn)
      have HQ := Lib.hid (HQ.out.below hbn)
      have HA := Lib.hid (HA.out.below hbn)
      have HM := Lib.hid (HM.out.below hbn)
      have HB := Lib.hid (below_after hbn HB.out)
      clear hbn
      rw [hGO] at hGT
      simp only [hGO]
      simp only [hGT]
      clear hw7 hGO hGT
      go_wp2_with fail
      refine wp_region_held_drew (S := fun W => Below w.heap.size w W ∧ Bk2 W GA x0 y0 ∧ Bk2 W GM x1 y1 ∧ Bk2 W GO u0 u1 ∧ Bk2 W GT v0 v1) (by kernel_rfl) ?_ (fun hHeld => ?_); focus ((try dsimp only); exact ⟨Below.drew HB.out, HA.out.below (Below.drew (Below.refl _ _)), HM.out.below (Below.drew (Below.refl _ _)), HO.out.below (Below.drew (Below.refl _ _)), HT.out.below (Below.drew (Below.refl _ _))⟩)
      have HR := Lib.hid (HR.out.below (Below.drew (Below.refl _ _)))
      have HQ := Lib.hid (HQ.out.below (Below.drew (Below.refl _ _)))
      have HA := Lib.hid (HA.out.below (Below.drew (Below.refl _ _)))
      have HM := Lib.hid (HM.out.below (Below.drew (Below.refl _ _)))
      have HO := Lib.hid (HO.out.below (Below.drew (Below.refl _ _)))
      have HT := Lib.hid (HT.out.below (Below.drew (Below.refl _ _)))
      have hHeld : (fun W => Below w.heap.size w W ∧ Bk2 W GA x0 y0 ∧ Bk2 W GM x1 y1 ∧ Bk2 W GO u0 u1 ∧ Bk2 W GT v0 v1) _ := hHeld
      obtain ⟨wD7, hwD7⟩ : ∃ wD, w7.drew = wD := ⟨_, rfl⟩
      rw [hwD7] at hHeld HR HQ HA HM HO HT ⊢
      clear hwD7
      (refine wpAnyH_take (i := 0) (v := ?_) rfl (by kernel_rfl) (by kernel_rfl) (by kernel_rfl) (fun _ _ _ h => h) (Or.inl ⟨rfl, ?_⟩) (by assumption) ?_; rotate_left; focus (intro W hSw; (try dsimp only at hSw); obtain ⟨hSb, hxA, hxM, hxO, hxT⟩ := hSw; obtain ⟨⟨iA0, iA1⟩, _, _⟩ := hxA; obtain ⟨⟨iM0, iM1⟩, _, _⟩ := hxM; obtain ⟨⟨iO0, iO1⟩, _, _⟩ := hxO; obtain ⟨⟨iT0, iT1⟩, _, _⟩ := hxT; go_simp; try (with_reducible rfl))); (try simp only [Act.put, List.getElem_toArray, List.getElem_cons_succ, List.getElem_cons_zero, List.setIfInBounds_toArray, List.set_cons_zero, List.set_cons_succ])
      (refine wpAnyH_take (i := 1) (v := ?_) rfl (by kernel_rfl) (by kernel_rfl) (by kernel_rfl) (fun _ _ _ h => h) (Or.inl ⟨rfl, ?_⟩) (by assumption) ?_; rotate_left; focus (intro W hSw; (try dsimp only at hSw); obtain ⟨hSb, hxA, hxM, hxO, hxT⟩ := hSw; obtain ⟨⟨iA0, iA1⟩, _, _⟩ := hxA; obtain ⟨⟨iM0, iM1⟩, _, _⟩ := hxM; obtain ⟨⟨iO0, iO1⟩, _, _⟩ := hxO; obtain ⟨⟨iT0, iT1⟩, _, _⟩ := hxT; go_simp; try (with_reducible rfl))); (try simp only [Act.put, List.getElem_toArray, List.getElem_cons_succ, List.getElem_cons_zero, List.setIfInBounds_toArray, List.set_cons_zero, List.set_cons_succ])
      refine wpAnyH_ready (rs := [2]) (by kernel_rfl) (by simp) ?_; refine AllReadyH.cons rfl (fun K hK => ?_) AllReadyH.nil
      obtain ⟨⟨a0, a1⟩, ⟨f0, f1⟩, az⟩ := HR.out; go_simp; clear a0 f0 a1 f1 az
      have HQ := Lib.hid ((HQ.out.far ⟨GR, 0, none⟩ (.int .i64 u0) (by show GQ ≠ GR; exact ne_Q_R)).far ⟨GR, 1, none⟩ (.int .i64 u1) (by show GQ ≠ GR; exact ne_Q_R))
      have HA := Lib.hid ((HA.out.far ⟨GR, 0, none⟩ (.int .i64 u0) (by show GA ≠ GR; exact ne_A_R)).far ⟨GR, 1, none⟩ (.int .i64 u1) (by show GA ≠ GR; exact ne_A_R))
      have HM := Lib.hid ((HM.out.far ⟨GR, 0, none⟩ (.int .i64 u0) (by show GM ≠ GR; exact ne_M_R)).far ⟨GR, 1, none⟩ (.int .i64 u1) (by show GM ≠ GR; exact ne_M_R))
      have HO := Lib.hid ((HO.out.far ⟨GR, 0, none⟩ (.int .i64 u0) (by show GO ≠ GR; exact ne_O_R)).far ⟨GR, 1, none⟩ (.int .i64 u1) (by show GO ≠ GR; exact ne_O_R))
      have HT := Lib.hid ((HT.out.far ⟨GR, 0, none⟩ (.int .i64 u0) (by show GT ≠ GR; exact ne_T_R)).far ⟨GR, 1, none⟩ (.int .i64 u1) (by show GT ≠ GR; exact ne_T_R))
      have HR := Lib.hid ((HR.out.set0 u0).set1 u1)
      refine hK.out _ _ ⟨(Below.setCell (Below.setCell hHeld.1 (p := ⟨GR, 0, none⟩) le_R _) (p := ⟨GR, 1, none⟩) le_R _), HA.out, HM.out, HO.out, HT.out⟩ (fun hHeld2 => ?_); (clear hHeld; rename _ => hHeld; clear hK K; have hHeld : (fun W => Below w.heap.size w W ∧ Bk2 W GA x0 y0 ∧ Bk2 W GM x1 y1 ∧ Bk2 W GO u0 u1 ∧ Bk2 W GT v0 v1) _ := hHeld); (try simp only [Act.put, List.getElem_toArray, List.getElem_cons_succ, List.getElem_cons_zero, List.setIfInBounds_toArray, List.set_cons_zero, List.set_cons_succ])
      obtain ⟨ywr7x0, hwx⟩ : ∃ wx, (wD7.setCell ⟨GR, 0, none⟩ (.int .i64 u0)).setCell ⟨GR, 1, none⟩ (.int .i64 u1) = wx := ⟨_, rfl⟩; rw [hwx] at HR HQ HA HM HO HT hHeld ⊢; clear hwx
      refine wpAnyH_ready (rs := [3]) (by kernel_rfl) (by simp) ?_; refine AllReadyH.cons rfl (fun K hK => ?_) AllReadyH.nil
      obtain ⟨⟨a0, a1⟩, ⟨f0, f1⟩, az⟩ := HQ.out; go_simp; clear a0 f0 a1 f1 az
      have HR := Lib.hid ((HR.out.far ⟨GQ, 0, none⟩ (.int .i64 v0) (by show GR ≠ GQ; exact ne_R_Q)).far ⟨GQ, 1, none⟩ (.int .i64 v1) (by show GR ≠ GQ; exact ne_R_Q))
      have HA := Lib.hid ((HA.out.far ⟨GQ, 0, none⟩ (.int .i64 v0) (by show GA ≠ GQ; exact ne_A_Q)).far ⟨GQ, 1, none⟩ (.int .i64 v1) (by show GA ≠ GQ; exact ne_A_Q))
      have HM := Lib.hid ((HM.out.far ⟨GQ, 0, none⟩ (.int .i64 v0) (by show GM ≠ GQ; exact ne_M_Q)).far ⟨GQ, 1, none⟩ (.int .i64 v1) (by show GM ≠ GQ; exact ne_M_Q))
      have HO := Lib.hid ((HO.out.far ⟨GQ, 0, none⟩ (.int .i64 v0) (by show GO ≠ GQ; exact ne_O_Q)).far ⟨GQ, 1, none⟩ (.int .i64 v1) (by show GO ≠ GQ; exact ne_O_Q))
      have HT := Lib.hid ((HT.out.far ⟨GQ, 0, none⟩ (.int .i64 v0) (by show GT ≠ GQ; exact ne_T_Q)).far ⟨GQ, 1, none⟩ (.int .i64 v1) (by show GT ≠ GQ; exact ne_T_Q))
      have HQ := Lib.hid ((HQ.out.set0 v0).set1 v1)
      refine hK.out _ _ ⟨(Below.setCell (Below.setCell hHeld.1 (p := ⟨GQ, 0, none⟩) le_Q _) (p := ⟨GQ, 1, none⟩) le_Q _), HA.out, HM.out, HO.out, HT.out⟩ (fun hHeld2 => ?_); (clear hHeld; rename _ => hHeld; clear hK K; have hHeld : (fun W => Below w.heap.size w W ∧ Bk2 W GA x0 y0 ∧ Bk2 W GM x1 y1 ∧ Bk2 W GO u0 u1 ∧ Bk2 W GT v0 v1) _ := hHeld); (try simp only [Act.put, List.getElem_toArray, List.getElem_cons_succ, List.getElem_cons_zero, List.setIfInBounds_toArray, List.set_cons_zero, List.set_cons_succ])
      obtain ⟨ywr7x1, hwx⟩ : ∃ wx, (ywr7x0.setCell ⟨GQ, 0, none⟩ (.int .i64 v0)).setCell ⟨GQ, 1, none⟩ (.int .i64 v1) = wx := ⟨_, rfl⟩; rw [hwx] at HR HQ HA HM HO HT hHeld ⊢; clear hwx
      refine wpAnyH_done (by kernel_rfl) ?_ _
      have HB := Lib.hid (hHeld.1)
      clear hHeld
      obtain ⟨⟨qR0, qR1⟩, ⟨fR0, fR1⟩, zR⟩ := HR.out
      obtain ⟨⟨qQ0, qQ1⟩, ⟨fQ0, fQ1⟩, zQ⟩ := HQ.out
      obtain ⟨⟨qA0, qA1⟩, ⟨fA0, fA1⟩, zA⟩ := HA.out
      obtain ⟨⟨qM0, qM1⟩, ⟨fM0, fM1⟩, zM⟩ := HM.out
      obtain ⟨⟨qO0, qO1⟩, ⟨fO0, fO1⟩, zO⟩ := HO.out
      obtain ⟨⟨qT0, qT1⟩, ⟨fT0, fT1⟩, zT⟩ := HT.out
      go_wp2_with fail
      refine bodyPost_ret (v := .tuple #[.agg #[.int .i64 u0, .int .i64 u1], .agg #[.int .i64 v0, .int .i64 v1]]) (by simp (maxDischargeDepth := 8) [results, Try.results9, go_sem, *]) rfl ?_
      have hb := HB.out
      exact ⟨u0, u1, v0, v1, rfl, hb⟩
    · skip
      go_wp2_with fail
      refine wp_region_held_drew (S := fun W => Below w.heap.size w W ∧ Bk2 W GA x0 y0 ∧ Bk2 W GM x1 y1) (by kernel_rfl) ?_ (fun hHeld => ?_); focus ((try dsimp only); exact ⟨Below.drew HB.out, HA.out.below (Below.drew (Below.refl _ _)), HM.out.below (Below.drew (Below.refl _ _))⟩)
      have HR := Lib.hid (HR.out.below (Below.drew (Below.refl _ _)))
      have HQ := Lib.hid (HQ.out.below (Below.drew (Below.refl _ _)))
      have HA := Lib.hid (HA.out.below (Below.drew (Below.refl _ _)))
      have HM := Lib.hid (HM.out.below (Below.drew (Below.refl _ _)))
      have hHeld : (fun W => Below w.heap.size w W ∧ Bk2 W GA x0 y0 ∧ Bk2 W GM x1 y1) _ := hHeld
      obtain ⟨wD5, hwD5⟩ : ∃ wD, w5.drew = wD := ⟨_, rfl⟩
      rw [hwD5] at hHeld HR HQ HA HM ⊢
      clear hwD5
      (refine wpAnyH_take (i := 0) (v := ?_) rfl (by kernel_rfl) (by kernel_rfl) (by kernel_rfl) (fun _ _ _ h => h) (Or.inl ⟨rfl, ?_⟩) (by assumption) ?_; rotate_left; focus (intro W hSw; (try dsimp only at hSw); obtain ⟨hSb, hxA, hxM⟩ := hSw; obtain ⟨⟨iA0, iA1⟩, _, _⟩ := hxA; obtain ⟨⟨iM0, iM1⟩, _, _⟩ := hxM; go_simp; try (with_reducible rfl))); (try simp only [Act.put, List.getElem_toArray, List.getElem_cons_succ, List.getElem_cons_zero, List.setIfInBounds_toArray, List.set_cons_zero, List.set_cons_succ])
      (refine wpAnyH_take (i := 1) (v := ?_) rfl (by kernel_rfl) (by kernel_rfl) (by kernel_rfl) (fun _ _ _ h => h) (Or.inl ⟨rfl, ?_⟩) (by assumption) ?_; rotate_left; focus (intro W hSw; (try dsimp only at hSw); obtain ⟨hSb, hxA, hxM⟩ := hSw; obtain ⟨⟨iA0, iA1⟩, _, _⟩ := hxA; obtain ⟨⟨iM0, iM1⟩, _, _⟩ := hxM; go_simp; try (with_reducible rfl))); (try simp only [Act.put, List.getElem_toArray, List.getElem_cons_succ, List.getElem_cons_zero, List.setIfInBounds_toArray, List.set_cons_zero, List.set_cons_succ])
      refine wpAnyH_ready (rs := [2]) (by kernel_rfl) (by simp) ?_; refine AllReadyH.cons rfl (fun K hK => ?_) AllReadyH.nil
      obtain ⟨⟨a0, a1⟩, ⟨f0, f1⟩, az⟩ := HR.out; go_simp; clear a0 f0 a1 f1 az
      have HQ := Lib.hid ((HQ.out.far ⟨GR, 0, none⟩ (.int .i64 x0) (by show GQ ≠ GR; exact ne_Q_R)).far ⟨GR, 1, none⟩ (.int .i64 y0) (by show GQ ≠ GR; exact ne_Q_R))
      have HA := Lib.hid ((HA.out.far ⟨GR, 0, none⟩ (.int .i64 x0) (by show GA ≠ GR; exact ne_A_R)).far ⟨GR, 1, none⟩ (.int .i64 y0) (by show GA ≠ GR; exact ne_A_R))
      have HM := Lib.hid ((HM.out.far ⟨GR, 0, none⟩ (.int .i64 x0) (by show GM ≠ GR; exact ne_M_R)).far ⟨GR, 1, none⟩ (.int .i64 y0) (by show GM ≠ GR; exact ne_M_R))
      have HR := Lib.hid ((HR.out.set0 x0).set1 y0)
      refine hK.out _ _ ⟨(Below.setCell (Below.setCell hHeld.1 (p := ⟨GR, 0, none⟩) le_R _) (p := ⟨GR, 1, none⟩) le_R _), HA.out, HM.out⟩ (fun hHeld2 => ?_); (clear hHeld; rename _ => hHeld; clear hK K; have hHeld : (fun W => Below w.heap.size w W ∧ Bk2 W GA x0 y0 ∧ Bk2 W GM x1 y1) _ := hHeld); (try simp only [Act.put, List.getElem_toArray, List.getElem_cons_succ, List.getElem_cons_zero, List.setIfInBounds_toArray, List.set_cons_zero, List.set_cons_succ])
      obtain ⟨ywr5x0, hwx⟩ : ∃ wx, (wD5.setCell ⟨GR, 0, none⟩ (.int .i64 x0)).setCell ⟨GR, 1, none⟩ (.int .i64 y0) = wx := ⟨_, rfl⟩; rw [hwx] at HR HQ HA HM hHeld ⊢; clear hwx
      refine wpAnyH_ready (rs := [3]) (by kernel_rfl) (by simp) ?_; refine AllReadyH.cons rfl (fun K hK => ?_) AllReadyH.nil
      obtain ⟨⟨a0, a1⟩, ⟨f0, f1⟩, az⟩ := HQ.out; go_simp; clear a0 f0 a1 f1 az
      have HR := Lib.hid ((HR.out.far ⟨GQ, 0, none⟩ (.int .i64 x1) (by show GR ≠ GQ; exact ne_R_Q)).far ⟨GQ, 1, none⟩ (.int .i64 y1) (by show GR ≠ GQ; exact ne_R_Q))
      have HA := Lib.hid ((HA.out.far ⟨GQ, 0, none⟩ (.int .i64 x1) (by show GA ≠ GQ; exact ne_A_Q)).far ⟨GQ, 1, none⟩ (.int .i64 y1) (by show GA ≠ GQ; exact ne_A_Q))
      have HM := Lib.hid ((HM.out.far ⟨GQ, 0, none⟩ (.int .i64 x1) (by show GM ≠ GQ; exact ne_M_Q)).far ⟨GQ, 1, none⟩ (.int .i64 y1) (by show GM ≠ GQ; exact ne_M_Q))
      have HQ := Lib.hid ((HQ.out.set0 x1).set1 y1)
      refine hK.out _ _ ⟨(Below.setCell (Below.setCell hHeld.1 (p := ⟨GQ, 0, none⟩) le_Q _) (p := ⟨GQ, 1, none⟩) le_Q _), HA.out, HM.out⟩ (fun hHeld2 => ?_); (clear hHeld; rename _ => hHeld; clear hK K; have hHeld : (fun W => Below w.heap.size w W ∧ Bk2 W GA x0 y0 ∧ Bk2 W GM x1 y1) _ := hHeld); (try simp only [Act.put, List.getElem_toArray, List.getElem_cons_succ, List.getElem_cons_zero, List.setIfInBounds_toArray, List.set_cons_zero, List.set_cons_succ])
      obtain ⟨ywr5x1, hwx⟩ : ∃ wx, (ywr5x0.setCell ⟨GQ, 0, none⟩ (.int .i64 x1)).setCell ⟨GQ, 1, none⟩ (.int .i64 y1) = wx := ⟨_, rfl⟩; rw [hwx] at HR HQ HA HM hHeld ⊢; clear hwx
      refine wpAnyH_done (by kernel_rfl) ?_ _
      have HB := Lib.hid (hHeld.1)
      clear hHeld
      obtain ⟨⟨qR0, qR1⟩, ⟨fR0, fR1⟩, zR⟩ := HR.out
      obtain ⟨⟨qQ0, qQ1⟩, ⟨fQ0, fQ1⟩, zQ⟩ := HQ.out
      obtain ⟨⟨qA0, qA1⟩, ⟨fA0, fA1⟩, zA⟩ := HA.out
      obtain ⟨⟨qM0, qM1⟩, ⟨fM0, fM1⟩, zM⟩ := HM.out
      go_wp2_with fail
      refine bodyPost_ret (v := .tuple #[.agg #[.int .i64 x0, .int .i64 y0], .agg #[.int .i64 x1, .int .i64 y1]]) (by simp (maxDischargeDepth := 8) [results, Try.results9, go_sem, *]) rfl ?_
      have hb := HB.out
      exact ⟨x0, y0, x1, y1, rfl, hb⟩
  · skip
    clear HSR
    clear hC CC
    go_wp2_with fail
    refine wp_region_held_drew (S := fun W => Below w.heap.size w W ∧ Bk2 W GA x0 y0 ∧ Bk2 W GM x1 y1) (by kernel_rfl) ?_ (fun hHeld => ?_); focus ((try dsimp only); exact ⟨Below.drew HB.out, HA.out.below (Below.drew (Below.refl _ _)), HM.out.below (Below.drew (Below.refl _ _))⟩)
    have HR := Lib.hid (HR.out.below (Below.drew (Below.refl _ _)))
    have HQ := Lib.hid (HQ.out.below (Below.drew (Below.refl _ _)))
    have HA := Lib.hid (HA.out.below (Below.drew (Below.refl _ _)))
    have HM := Lib.hid (HM.out.below (Below.drew (Below.refl _ _)))
    have hHeld : (fun W => Below w.heap.size w W ∧ Bk2 W GA x0 y0 ∧ Bk2 W GM x1 y1) _ := hHeld
    obtain ⟨wD4, hwD4⟩ : ∃ wD, w4.drew = wD := ⟨_, rfl⟩
    rw [hwD4] at hHeld HR HQ HA HM ⊢
    clear hwD4
    (refine wpAnyH_take (i := 0) (v := ?_) rfl (by kernel_rfl) (by kernel_rfl) (by kernel_rfl) (fun _ _ _ h => h) (Or.inl ⟨rfl, ?_⟩) (by assumption) ?_; rotate_left; focus (intro W hSw; (try dsimp only at hSw); obtain ⟨hSb, hxA, hxM⟩ := hSw; obtain ⟨⟨iA0, iA1⟩, _, _⟩ := hxA; obtain ⟨⟨iM0, iM1⟩, _, _⟩ := hxM; go_simp; try (with_reducible rfl))); (try simp only [Act.put, List.getElem_toArray, List.getElem_cons_succ, List.getElem_cons_zero, List.setIfInBounds_toArray, List.set_cons_zero, List.set_cons_succ])
    (refine wpAnyH_take (i := 1) (v := ?_) rfl (by kernel_rfl) (by kernel_rfl) (by kernel_rfl) (fun _ _ _ h => h) (Or.inl ⟨rfl, ?_⟩) (by assumption) ?_; rotate_left; focus (intro W hSw; (try dsimp only at hSw); obtain ⟨hSb, hxA, hxM⟩ := hSw; obtain ⟨⟨iA0, iA1⟩, _, _⟩ := hxA; obtain ⟨⟨iM0, iM1⟩, _, _⟩ := hxM; go_simp; try (with_reducible rfl))); (try simp only [Act.put, List.getElem_toArray, List.getElem_cons_succ, List.getElem_cons_zero, List.setIfInBounds_toArray, List.set_cons_zero, List.set_cons_succ])
    refine wpAnyH_ready (rs := [2]) (by kernel_rfl) (by simp) ?_; refine AllReadyH.cons rfl (fun K hK => ?_) AllReadyH.nil
    obtain ⟨⟨a0, a1⟩, ⟨f0, f1⟩, az⟩ := HR.out; go_simp; clear a0 f0 a1 f1 az
    have HQ := Lib.hid ((HQ.out.far ⟨GR, 0, none⟩ (.int .i64 x0) (by show GQ ≠ GR; exact ne_Q_R)).far ⟨GR, 1, none⟩ (.int .i64 y0) (by show GQ ≠ GR; exact ne_Q_R))
    have HA := Lib.hid ((HA.out.far ⟨GR, 0, none⟩ (.int .i64 x0) (by show GA ≠ GR; exact ne_A_R)).far ⟨GR, 1, none⟩ (.int .i64 y0) (by show GA ≠ GR; exact ne_A_R))
    have HM := Lib.hid ((HM.out.far ⟨GR, 0, none⟩ (.int .i64 x0) (by show GM ≠ GR; exact ne_M_R)).far ⟨GR, 1, none⟩ (.int .i64 y0) (by show GM ≠ GR; exact ne_M_R))
    have HR := Lib.hid ((HR.out.set0 x0).set1 y0)
    refine hK.out _ _ ⟨(Below.setCell (Below.setCell hHeld.1 (p := ⟨GR, 0, none⟩) le_R _) (p := ⟨GR, 1, none⟩) le_R _), HA.out, HM.out⟩ (fun hHeld2 => ?_); (clear hHeld; rename _ => hHeld; clear hK K; have hHeld : (fun W => Below w.heap.size w W ∧ Bk2 W GA x0 y0 ∧ Bk2 W GM x1 y1) _ := hHeld); (try simp only [Act.put, List.getElem_toArray, List.getElem_cons_succ, List.getElem_cons_zero, List.setIfInBounds_toArray, List.set_cons_zero, List.set_cons_succ])
    obtain ⟨ywr4x0, hwx⟩ : ∃ wx, (wD4.setCell ⟨GR, 0, none⟩ (.int .i64 x0)).setCell ⟨GR, 1, none⟩ (.int .i64 y0) = wx := ⟨_, rfl⟩; rw [hwx] at HR HQ HA HM hHeld ⊢; clear hwx
    refine wpAnyH_ready (rs := [3]) (by kernel_rfl) (by simp) ?_; refine AllReadyH.cons rfl (fun K hK => ?_) AllReadyH.nil
    obtain ⟨⟨a0, a1⟩, ⟨f0, f1⟩, az⟩ := HQ.out; go_simp; clear a0 f0 a1 f1 az
    have HR := Lib.hid ((HR.out.far ⟨GQ, 0, none⟩ (.int .i64 x1) (by show GR ≠ GQ; exact ne_R_Q)).far ⟨GQ, 1, none⟩ (.int .i64 y1) (by show GR ≠ GQ; exact ne_R_Q))
    have HA := Lib.hid ((HA.out.far ⟨GQ, 0, none⟩ (.int .i64 x1) (by show GA ≠ GQ; exact ne_A_Q)).far ⟨GQ, 1, none⟩ (.int .i64 y1) (by show GA ≠ GQ; exact ne_A_Q))
    have HM := Lib.hid ((HM.out.far ⟨GQ, 0, none⟩ (.int .i64 x1) (by show GM ≠ GQ; exact ne_M_Q)).far ⟨GQ, 1, none⟩ (.int .i64 y1) (by show GM ≠ GQ; exact ne_M_Q))
    have HQ := Lib.hid ((HQ.out.set0 x1).set1 y1)
    refine hK.out _ _ ⟨(Below.setCell (Below.setCell hHeld.1 (p := ⟨GQ, 0, none⟩) le_Q _) (p := ⟨GQ, 1, none⟩) le_Q _), HA.out, HM.out⟩ (fun hHeld2 => ?_); (clear hHeld; rename _ => hHeld; clear hK K; have hHeld : (fun W => Below w.heap.size w W ∧ Bk2 W GA x0 y0 ∧ Bk2 W GM x1 y1) _ := hHeld); (try simp only [Act.put, List.getElem_toArray, List.getElem_cons_succ, List.getElem_cons_zero, List.setIfInBounds_toArray, List.set_cons_zero, List.set_cons_succ])
    obtain ⟨ywr4x1, hwx⟩ : ∃ wx, (ywr4x0.setCell ⟨GQ, 0, none⟩ (.int .i64 x1)).setCell ⟨GQ, 1, none⟩ (.int .i64 y1) = wx := ⟨_, rfl⟩; rw [hwx] at HR HQ HA HM hHeld ⊢; clear hwx
    refine wpAnyH_done (by kernel_rfl) ?_ _
    have HB := Lib.hid (hHeld.1)
    clear hHeld
    obtain ⟨⟨qR0, qR1⟩, ⟨fR0, fR1⟩, zR⟩ := HR.out
    obtain ⟨⟨qQ0, qQ1⟩, ⟨fQ0, fQ1⟩, zQ⟩ := HQ.out
    obtain ⟨⟨qA0, qA1⟩, ⟨fA0, fA1⟩, zA⟩ := HA.out
    obtain ⟨⟨qM0, qM1⟩, ⟨fM0, fM1⟩, zM⟩ := HM.out
    go_wp2_with fail
    refine bodyPost_ret (v := .tuple #[.agg #[.int .i64 x0, .int .i64 y0], .agg #[.int .i64 x1, .int .i64 y1]]) (by simp (maxDischargeDepth := 8) [results, Try.results9, go_sem, *]) rfl ?_
    have hb := HB.out
    exact ⟨x0, y0, x1, y1, rfl, hb⟩
end Go.Proofs.Ytadikmjdmddkjaa
