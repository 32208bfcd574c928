/-
  The draws of points and matrices (own work).
-/
import Derived.Test.YtoenlpkphekbnaaFpB
import Derived.Test.YtoenlpkphekbnaaDrw4
import Derived.Test.YtoenlpkphekbnaaBk4
import Derived.BigRegion
import Derived.Deep.Cut
namespace Go.Proofs.Ytoenlpkphekbnaa
open Go.ChangeShapes Go.WideShapes Go.ChangeAt Go.RowKit
set_option linter.unusedVariables false
set_option maxRecDepth 100000
set_option linter.unusedSimpArgs false
set_option maxRecDepth 100000

theorem Bk2.growsX {w w' : World} {g : Nat} {r : Option Nat} {a b : Int} (h : Bk2 w g a b) (hg : w.grownBy w' r) (hne : r ≠ some g) : Bk2 w' g a b := h.same (hg.block g h.2.2 (fun e => hne e.symm))
theorem Bk4.growsX {w w' : World} {g : Nat} {r : Option Nat} {a b c d : Int} (h : Bk4 w g a b c d) (hg : w.grownBy w' r) (hne : r ≠ some g) : Bk4 w' g a b c d := h.same (hg.block g h.2.2 (fun e => hne e.symm))
set_option maxHeartbeats 4000000 in
theorem DrawInverseMatrix_any (a : Option Addr) (n cap : Nat) (w : World) (hn : n ≤ 9223372036854775807) (hb : Byt w w.heap.size a n) :
    Calls Try.prog 7 #[.slice a n cap] w fun e w' => ∃ p q r t : Int, e = .returned (.agg #[.int .i64 p, .int .i64 q, .int .i64 r, .int .i64 t]) ∧ Below w.heap.size w w' := by
  have CF : Hid (∀ W, Below w.heap.size w W → Calls Try.prog 72 #[.slice a n cap] W fun e w' => ∃ s, e = .returned (.pointer (some ⟨s, 0, none⟩)) ∧ Sr w' s a n cap ∧ (w.heap.size ≤ s ∧ W.heap.size ≤ s) ∧ Below W.heap.size W w') := fun W hW => (l01From_any a n cap W hn (hb.over hW)).mono (by rintro e w' ⟨rfl, h1, h2⟩; exact ⟨_, rfl, h2, ⟨hW.size, Nat.le_refl _⟩, h1⟩)
  clear hb
  obtain ⟨GR, hG⟩ : ∃ G, w.heap.size = G := ⟨_, rfl⟩
  have HG := Lib.hid hG
  go_enter Try.func7, Try.ntmps7
  go_upto_region 1 with fail
  obtain ⟨w0, hw0⟩ : ∃ w0, w0 = (w.alloc (.cells #[.int .i64 0, .int .i64 0, .int .i64 0, .int .i64 0] 26)) := ⟨_, rfl⟩
  rw [← hw0]
  have HR : Hid (Bk4 w0 GR 0 0 0 0) := by
    have h := (bk4_new w 0 0 0 0 26).below (W' := (w.alloc (.cells #[.int .i64 0, .int .i64 0, .int .i64 0, .int .i64 0] 26))) (by (repeat' (first | (with_reducible exact Below.refl _ _) | (with_reducible refine Below.alloc ?_ ?_ _) | (with_reducible refine Below.setCell ?_ ?_ _) | (with_reducible refine Below.drew ?_) | (with_reducible refine below_drewN ?_ _) | (with_reducible assumption) | (with_reducible refine below_after (by with_reducible assumption) ?_) | go_size)))
    (try simp only [World.size_alloc] at h)
    rw [hG] at h
    rw [hw0]; exact h
  have HB : Hid (Below w.heap.size w w0) := by show Below w.heap.size w w0; rw [hw0]; (repeat' (first | (with_reducible exact Below.refl _ _) | (with_reducible refine Below.alloc ?_ ?_ _) | (with_reducible refine Below.setCell ?_ ?_ _) | (with_reducible refine Below.drew ?_) | (with_reducible refine below_drewN ?_ _) | (with_reducible assumption) | (with_reducible refine below_after (by with_reducible assumption) ?_) | go_size))
  clear hw0
  have le_R : w.heap.size ≤ GR := by omega
  have zR0 := HR.out.2.2
  obtain ⟨⟨qR0, qR1, qR2, qR3⟩, ⟨fR0, fR1, fR2, fR3⟩, zR⟩ := HR.out
  go_wp2_with fail
  go_at_call 72
  refine (CF.out _ HB.out).mono ?_
  rintro e w1 ⟨sG, rfl, hs, hsl, hb⟩
  clear qR0 fR0 qR1 fR1 qR2 fR2 qR3 fR3 zR
  have HR := Lib.hid (HR.out.below hb)
  have HB := Lib.hid (below_after hb HB.out)
  clear hb
  have HSR := Lib.hid hs
  have le_s : w.heap.size ≤ sG := by have := hsl; omega
  have ne_R_s : GR ≠ sG := by omega
  clear hs
  obtain ⟨⟨qR0, qR1, qR2, qR3⟩, ⟨fR0, fR1, fR2, fR3⟩, zR⟩ := HR.out
  go_wp2_with fail
  go_at_call 71
  refine (l01AnyMatrix_any _ a n cap _ HSR.out).mono ?_
  rintro e w2 ⟨p, q, r, t, rfl, hg, hs⟩
  clear qR0 fR0 qR1 fR1 qR2 fR2 qR3 fR3 zR
  have HR := Lib.hid (HR.out.growsX hg (by intro hh; injection hh with hh; exact ne_R_s hh.symm))
  have HB := Lib.hid (Below.grown HB.out hg HB.out.size (fun k hk => by injection hk with hk; omega))
  have HSR := Lib.hid hs
  clear hg hs
  clear HSR
  have KB := (Below.setCell (Below.setCell (Below.setCell (Below.setCell HB.out (p := ⟨GR, 0, none⟩) le_R (.int .i64 p)) (p := ⟨GR, 1, none⟩) le_R (.int .i64 q)) (p := ⟨GR, 2, none⟩) le_R (.int .i64 r)) (p := ⟨GR, 3, none⟩) le_R (.int .i64 t))
  obtain ⟨⟨qR0, qR1, qR2, qR3⟩, ⟨fR0, fR1, fR2, fR3⟩, zR⟩ := HR.out
  go_wp2_with fail
  refine bodyPost_ret (v := .agg #[.int .i64 p, .int .i64 q, .int .i64 r, .int .i64 t]) (by simp (maxDischargeDepth := 8) [results, Try.results7, go_sem, *]) rfl ?_
  exact ⟨p, q, r, t, rfl, KB⟩
set_option maxHeartbeats 4000000 in
theorem DrawApplyMatrix_any (a : Option Addr) (n cap : Nat) (w : World) (hn : n ≤ 9223372036854775807) (hb : Byt w w.heap.size a n) :
    Calls Try.prog 31 #[.slice a n cap] w fun e w' => ∃ p q r t u v : Int, e = .returned (.tuple #[.agg #[.int .i64 p, .int .i64 q, .int .i64 r, .int .i64 t], .agg #[.int .i64 u, .int .i64 v]]) ∧ Below w.heap.size w w' := by
  have CF : Hid (∀ W, Below w.heap.size w W → Calls Try.prog 72 #[.slice a n cap] W fun e w' => ∃ s, e = .returned (.pointer (some ⟨s, 0, none⟩)) ∧ Sr w' s a n cap ∧ (w.heap.size ≤ s ∧ W.heap.size ≤ s) ∧ Below W.heap.size W w') := fun W hW => (l01From_any a n cap W hn (hb.over hW)).mono (by rintro e w' ⟨rfl, h1, h2⟩; exact ⟨_, rfl, h2, ⟨hW.size, Nat.le_refl _⟩, h1⟩)
  clear hb
  obtain ⟨GR, hG⟩ : ∃ G, w.heap.size = G := ⟨_, rfl⟩
  have HG := Lib.hid hG
  go_enter Try.func31, Try.ntmps31
  go_upto_region 1 with fail
  obtain ⟨w0, hw0⟩ : ∃ w0, w0 = ((w.alloc (.cells #[.int .i64 0, .int .i64 0, .int .i64 0, .int .i64 0] 26)).alloc (.cells #[.int .i64 0, .int .i64 0] 30)) := ⟨_, rfl⟩
  rw [← hw0]
  have HR : Hid (Bk4 w0 GR 0 0 0 0) := by
    have h := (bk4_new w 0 0 0 0 26).below (W' := ((w.alloc (.cells #[.int .i64 0, .int .i64 0, .int .i64 0, .int .i64 0] 26)).alloc (.cells #[.int .i64 0, .int .i64 0] 30))) (by (repeat' (first | (with_reducible exact Below.refl _ _) | (with_reducible refine Below.alloc ?_ ?_ _) | (with_reducible refine Below.setCell ?_ ?_ _) | (with_reducible refine Below.drew ?_) | (with_reducible refine below_drewN ?_ _) | (with_reducible assumption) | (with_reducible refine below_after (by with_reducible assumption) ?_) | go_size)))
    (try simp only [World.size_alloc] at h)
    rw [hG] at h
    rw [hw0]; exact h
  have HQ : Hid (Bk2 w0 (GR + 1) 0 0) := by
    have h := (bk2_new (w.alloc (.cells #[.int .i64 0, .int .i64 0, .int .i64 0, .int .i64 0] 26)) 0 0 30).below (W' := ((w.alloc (.cells #[.int .i64 0, .int .i64 0, .int .i64 0, .int .i64 0] 26)).alloc (.cells #[.int .i64 0, .int .i64 0] 30))) (by (repeat' (first | (with_reducible exact Below.refl _ _) | (with_reducible refine Below.alloc ?_ ?_ _) | (with_reducible refine Below.setCell ?_ ?_ _) | (with_reducible refine Below.drew ?_) | (with_reducible refine below_drewN ?_ _) | (with_reducible assumption) | (with_reducible refine below_after (by with_reducible assumption) ?_) | go_size)))
    (try simp only [World.size_alloc] at h)
    rw [hG] at h
    rw [hw0]; exact h
  have HB : Hid (Below w.heap.size w w0) := by show Below w.heap.size w w0; rw [hw0]; (repeat' (first | (with_reducible exact Below.refl _ _) | (with_reducible refine Below.alloc ?_ ?_ _) | (with_reducible refine Below.setCell ?_ ?_ _) | (with_reducible refine Below.drew ?_) | (with_reducible refine below_drewN ?_ _) | (with_reducible assumption) | (with_reducible refine below_after (by with_reducible assumption) ?_) | go_size))
  clear hw0
  obtain ⟨GQ, hGQ⟩ : ∃ g, GR + 1 = g := ⟨_, rfl⟩
  rw [hGQ] at HQ ⊢
  have le_R : w.heap.size ≤ GR := by omega
  have le_Q : w.heap.size ≤ GQ := by omega
  have ne_Q_R : GQ ≠ GR := by omega
  have ne_R_Q : GR ≠ GQ := by omega
  clear hGQ
  have zR0 := HR.out.2.2
  have zQ0 := HQ.out.2.2
  obtain ⟨⟨qR0, qR1, qR2, qR3⟩, ⟨fR0, fR1, fR2, fR3⟩, zR⟩ := HR.out
  obtain ⟨⟨qQ0, qQ1⟩, ⟨fQ0, fQ1⟩, zQ⟩ := HQ.out
  go_wp2_with fail
  go_at_call 72
  refine (CF.out _ HB.out).mono ?_
  rintro e w1 ⟨sG, rfl, hs, hsl, hb⟩
  clear qR0 fR0 qR1 fR1 qR2 fR2 qR3 fR3 zR qQ0 fQ0 qQ1 fQ1 zQ
  have HR := Lib.hid (HR.out.below hb)
  have HQ := Lib.hid (HQ.out.below hb)
  have HB := Lib.hid (below_after hb HB.out)
  clear hb
  have HSR := Lib.hid hs
  have le_s : w.heap.size ≤ sG := by have := hsl; omega
  have ne_R_s : GR ≠ sG := by omega
  have ne_Q_s : GQ ≠ sG := by omega
  clear hs
  obtain ⟨⟨qR0, qR1, qR2, qR3⟩, ⟨fR0, fR1, fR2, fR3⟩, zR⟩ := HR.out
  obtain ⟨⟨qQ0, qQ1⟩, ⟨fQ0, fQ1⟩, zQ⟩ := HQ.out
  go_wp2_with fail
  go_at_call 71
  refine (l01AnyMatrix_any _ a n cap _ HSR.out).mono ?_
  rintro e w2 ⟨p, q, r, t, rfl, hg, hs⟩
  clear qR0 fR0 qR1 fR1 qR2 fR2 qR3 fR3 zR qQ0 fQ0 qQ1 fQ1 zQ
  have HR := Lib.hid (HR.out.growsX hg (by intro hh; injection hh with hh; exact ne_R_s hh.symm))
  have HQ := Lib.hid (HQ.out.growsX hg (by intro hh; injection hh with hh; exact ne_Q_s hh.symm))
  have HB := Lib.hid (Below.grown HB.out hg HB.out.size (fun k hk => by injection hk with hk; omega))
  have HSR := Lib.hid hs
  clear hg hs
  obtain ⟨⟨qR0, qR1, qR2, qR3⟩, ⟨fR0, fR1, fR2, fR3⟩, zR⟩ := HR.out
  obtain ⟨⟨qQ0, qQ1⟩, ⟨fQ0, fQ1⟩, zQ⟩ := HQ.out
  go_upto_region 3 with fail
  obtain ⟨GA, hGA⟩ : ∃ g, w2.heap.size = g := ⟨_, rfl⟩
  obtain ⟨w3, hw3⟩ : ∃ wx, wx = w2.alloc (.cells #[.int .i64 p, .int .i64 q, .int .i64 r, .int .i64 t] 26) := ⟨_, rfl⟩
  rw [← hw3, hGA]
  have HA : Hid (Bk4 w3 GA p q r t) := by rw [hw3, ← hGA]; exact bk4_new w2 p q r t _
  have le_A : w.heap.size ≤ GA := by rw [← hGA]; exact HB.out.size
  have ne_A_R : GA ≠ GR := by have := HR.out.2.2; omega
  have ne_R_A : GR ≠ GA := Ne.symm ne_A_R
  have ne_A_Q : GA ≠ GQ := by have := HQ.out.2.2; omega
  have ne_Q_A : GQ ≠ GA := Ne.symm ne_A_Q
  have lt_s_A : sG < GA := by have := HSR.out.lt; omega
  have ne_A_s : GA ≠ sG := by omega
  clear qR0 fR0 qR1 fR1 qR2 fR2 qR3 fR3 zR qQ0 fQ0 qQ1 fQ1 zQ
  have HR := Lib.hid (HR.out.below ((Below.refl _ _).alloc (Nat.le_refl _) (.cells #[.int .i64 p, .int .i64 q, .int .i64 r, .int .i64 t] 26)))
  have HQ := Lib.hid (HQ.out.below ((Below.refl _ _).alloc (Nat.le_refl _) (.cells #[.int .i64 p, .int .i64 q, .int .i64 r, .int .i64 t] 26)))
  have HSR := Lib.hid (HSR.out.below ((Below.refl _ _).alloc (Nat.le_refl _) (.cells #[.int .i64 p, .int .i64 q, .int .i64 r, .int .i64 t] 26)))
  have HB := Lib.hid (Below.alloc HB.out HB.out.size (.cells #[.int .i64 p, .int .i64 q, .int .i64 r, .int .i64 t] 26))
  rw [← hw3] at HR HQ HSR HB
  clear hw3 hGA
  go_wp2_with fail
  refine wp_region_held_drew (S := fun W => Below w.heap.size w W ∧ Bk4 W GA p q r t) (by kernel_rfl) ?_ (fun hHeld => ?_); focus ((try dsimp only); exact ⟨Below.drew HB.out, HA.out.below (Below.drew (Below.refl _ _))⟩)
  have HR := Lib.hid (HR.out.below (Below.drew (Below.refl _ _)))
  have HQ := Lib.hid (HQ.out.below (Below.drew (Below.refl _ _)))
  have HA := Lib.hid (HA.out.below (Below.drew (Below.refl _ _)))
  have HSR := Lib.hid (HSR.out.below (Below.drew (Below.refl _ _)))
  have hHeld : (fun W => Below w.heap.size w W ∧ Bk4 W GA p q r t) _ := hHeld
  obtain ⟨wD3, hwD3⟩ : ∃ wD, w3.drew = wD := ⟨_, rfl⟩
  rw [hwD3] at hHeld HR HQ HA HSR ⊢
  clear hwD3
  (refine wpAnyH_take (i := 0) (v := ?_) rfl (by kernel_rfl) (by kernel_rfl) (by kernel_rfl) (fun _ _ _ h => h) (Or.inl ⟨rfl, ?_⟩) (by assumption) ?_; rotate_left; focus (intro W hSw; (try dsimp only at hSw); obtain ⟨hSb, hxA⟩ := hSw; obtain ⟨⟨iA0, iA1, iA2, iA3⟩, _, _⟩ := hxA; go_simp; try (with_reducible rfl))); (try simp only [Act.put, List.getElem_toArray, List.getElem_cons_succ, List.getElem_cons_zero, List.setIfInBounds_toArray, List.set_cons_zero, List.set_cons_succ])
  (refine wpAnyH_take (i := 1) (v := ?_) rfl (by kernel_rfl) (by kernel_rfl) (by kernel_rfl) (fun _ _ _ h => h) (Or.inl ⟨rfl, ?_⟩) (by assumption) ?_; rotate_left; focus (intro W hSw; (try dsimp only at hSw); obtain ⟨hSb, hxA⟩ := hSw; obtain ⟨⟨iA0, iA1, iA2, iA3⟩, _, _⟩ := hxA; go_simp; try (with_reducible rfl))); (try simp only [Act.put, List.getElem_toArray, List.getElem_cons_succ, List.getElem_cons_zero, List.setIfInBounds_toArray, List.set_cons_zero, List.set_cons_succ])
  refine wpAnyH_ready (rs := [2]) (by kernel_rfl) (by simp) ?_; refine AllReadyH.cons rfl (fun K hK => ?_) AllReadyH.nil
  go_simp; (go_at_call 78; refine (l01Spoil_any _ a n cap _ HSR.out).mono ?_; rintro en ywr3x0 ⟨u, v, rfl, hg, hs⟩)
  have HR := Lib.hid (HR.out.growsX hg (by intro hh; injection hh with hh; exact ne_R_s hh.symm))
  have HQ := Lib.hid (HQ.out.growsX hg (by intro hh; injection hh with hh; exact ne_Q_s hh.symm))
  have HA := Lib.hid (HA.out.growsX hg (by intro hh; injection hh with hh; exact ne_A_s hh.symm))
  have hBn := Below.grown hHeld.1 hg (Below.size hHeld.1) (fun k hk => by injection hk with hk; omega)
  have HSR := Lib.hid hs
  clear hg hs
  refine hK.out _ _ ⟨hBn, HA.out⟩ (fun hHeld2 => ?_); clear hBn; (clear hHeld; rename _ => hHeld; clear hK K; have hHeld : (fun W => Below w.heap.size w W ∧ Bk4 W GA p q r t) _ := hHeld); (try simp only [Act.put, List.getElem_toArray, List.getElem_cons_succ, List.getElem_cons_zero, List.setIfInBounds_toArray, List.set_cons_zero, List.set_cons_succ])
  refine wpAnyH_ready (rs := [3]) (by kernel_rfl) (by simp) ?_; refine AllReadyH.cons rfl (fun K hK => ?_) AllReadyH.nil
  clear HSR
  obtain ⟨⟨a0, a1, a2, a3⟩, ⟨f0, f1, f2, f3⟩, az⟩ := HR.out; go_simp; clear a0 f0 a1 f1 a2 f2 a3 f3 az
  have HQ := Lib.hid ((((HQ.out.far ⟨GR, 0, none⟩ (.int .i64 p) (by show GQ ≠ GR; exact ne_Q_R)).far ⟨GR, 1, none⟩ (.int .i64 q) (by show GQ ≠ GR; exact ne_Q_R)).far ⟨GR, 2, none⟩ (.int .i64 r) (by show GQ ≠ GR; exact ne_Q_R)).far ⟨GR, 3, none⟩ (.int .i64 t) (by show GQ ≠ GR; exact ne_Q_R))
  have HA := Lib.hid ((((HA.out.far ⟨GR, 0, none⟩ (.int .i64 p) (by show GA ≠ GR; exact ne_A_R)).far ⟨GR, 1, none⟩ (.int .i64 q) (by show GA ≠ GR; exact ne_A_R)).far ⟨GR, 2, none⟩ (.int .i64 r) (by show GA ≠ GR; exact ne_A_R)).far ⟨GR, 3, none⟩ (.int .i64 t) (by show GA ≠ GR; exact ne_A_R))
  have HR := Lib.hid ((((HR.out.set0 p).set1 q).set2 r).set3 t)
  refine hK.out _ _ ⟨(Below.setCell (Below.setCell (Below.setCell (Below.setCell hHeld.1 (p := ⟨GR, 0, none⟩) le_R _) (p := ⟨GR, 1, none⟩) le_R _) (p := ⟨GR, 2, none⟩) le_R _) (p := ⟨GR, 3, none⟩) le_R _), HA.out⟩ (fun hHeld2 => ?_); (clear hHeld; rename _ => hHeld; clear hK K; have hHeld : (fun W => Below w.heap.size w W ∧ Bk4 W GA p q r t) _ := hHeld); (try simp only [Act.put, List.getElem_toArray, List.getElem_cons_succ, List.getElem_cons_zero, List.setIfInBounds_toArray, List.set_cons_zero, List.set_cons_succ])
  obtain ⟨ywr3x1, hwx⟩ : ∃ wx, (((ywr3x0.setCell ⟨GR, 0, none⟩ (.int .i64 p)).setCell ⟨GR, 1, none⟩ (.int .i64 q)).setCell ⟨GR, 2, none⟩ (.int .i64 r)).setCell ⟨GR, 3, none⟩ (.int .i64 t) = wx := ⟨_, rfl⟩; rw [hwx] at HR HQ HA hHeld ⊢; clear hwx
  refine wpAnyH_ready (rs := [4]) (by kernel_rfl) (by simp) ?_; refine AllReadyH.cons rfl (fun K hK => ?_) AllReadyH.nil
  obtain ⟨⟨a0, a1⟩, ⟨f0, f1⟩, az⟩ := HQ.out; go_simp; clear a0 f0 a1 f1 az
  have HR := Lib.hid ((HR.out.far ⟨GQ, 0, none⟩ (.int .i64 u) (by show GR ≠ GQ; exact ne_R_Q)).far ⟨GQ, 1, none⟩ (.int .i64 v) (by show GR ≠ GQ; exact ne_R_Q))
  have HA := Lib.hid ((HA.out.far ⟨GQ, 0, none⟩ (.int .i64 u) (by show GA ≠ GQ; exact ne_A_Q)).far ⟨GQ, 1, none⟩ (.int .i64 v) (by show GA ≠ GQ; exact ne_A_Q))
  have HQ := Lib.hid ((HQ.out.set0 u).set1 v)
  refine hK.out _ _ ⟨(Below.setCell (Below.setCell hHeld.1 (p := ⟨GQ, 0, none⟩) le_Q _) (p := ⟨GQ, 1, none⟩) le_Q _), HA.out⟩ (fun hHeld2 => ?_); (clear hHeld; rename _ => hHeld; clear hK K; have hHeld : (fun W => Below w.heap.size w W ∧ Bk4 W GA p q r t) _ := hHeld); (try simp only [Act.put, List.getElem_toArray, List.getElem_cons_succ, List.getElem_cons_zero, List.setIfInBounds_toArray, List.set_cons_zero, List.set_cons_succ])
  obtain ⟨ywr3x2, hwx⟩ : ∃ wx, (ywr3x1.setCell ⟨GQ, 0, none⟩ (.int .i64 u)).setCell ⟨GQ, 1, none⟩ (.int .i64 v) = wx := ⟨_, rfl⟩; rw [hwx] at HR HQ HA hHeld ⊢; clear hwx
  refine wpAnyH_done (by kernel_rfl) ?_ _
  have HB := Lib.hid (hHeld.1)
  clear hHeld
  obtain ⟨⟨qR0, qR1, qR2, qR3⟩, ⟨fR0, fR1, fR2, fR3⟩, zR⟩ := HR.out
  obtain ⟨⟨qQ0, qQ1⟩, ⟨fQ0, fQ1⟩, zQ⟩ := HQ.out
  obtain ⟨⟨qA0, qA1, qA2, qA3⟩, ⟨fA0, fA1, fA2, fA3⟩, zA⟩ := HA.out
  go_wp2_with fail
  refine bodyPost_ret (v := .tuple #[.agg #[.int .i64 p, .int .i64 q, .int .i64 r, .int .i64 t], .agg #[.int .i64 u, .int .i64 v]]) (by simp (maxDischargeDepth := 8) [results, Try.results31, go_sem, *]) rfl ?_
  have hb := HB.out
  exact ⟨p, q, r, t, u, v, rfl, hb⟩
set_option maxHeartbeats 4000000 in
theorem DrawMultiplyMatrices_any (a : Option Addr) (n cap : Nat) (w : World) (hn : n ≤ 9223372036854775807) (hb : Byt w w.heap.size a n) :
    Calls Try.prog 33 #[.slice a n cap] w fun e w' => ∃ p q r t p1 q1 r1 t1 : Int, e = .returned (.tuple #[.agg #[.int .i64 p, .int .i64 q, .int .i64 r, .int .i64 t], .agg #[.int .i64 p1, .int .i64 q1, .int .i64 r1, .int .i64 t1]]) ∧ Below w.heap.size w w' := by
  have CF : Hid (∀ W, Below w.heap.size w W → Calls Try.prog 72 #[.slice a n cap] W fun e w' => ∃ s, e = .returned (.pointer (some ⟨s, 0, none⟩)) ∧ Sr w' s a n cap ∧ (w.heap.size ≤ s ∧ W.heap.size ≤ s) ∧ Below W.heap.size W w') := fun W hW => (l01From_any a n cap W hn (hb.over hW)).mono (by rintro e w' ⟨rfl, h1, h2⟩; exact ⟨_, rfl, h2, ⟨hW.size, Nat.le_refl _⟩, h1⟩)
  clear hb
  obtain ⟨GR, hG⟩ : ∃ G, w.heap.size = G := ⟨_, rfl⟩
  have HG := Lib.hid hG
  go_enter Try.func33, Try.ntmps33
  go_upto_region 1 with fail
  obtain ⟨w0, hw0⟩ : ∃ w0, w0 = ((w.alloc (.cells #[.int .i64 0, .int .i64 0, .int .i64 0, .int .i64 0] 26)).alloc (.cells #[.int .i64 0, .int .i64 0, .int .i64 0, .int .i64 0] 26)) := ⟨_, rfl⟩
  rw [← hw0]
  have HR : Hid (Bk4 w0 GR 0 0 0 0) := by
    have h := (bk4_new w 0 0 0 0 26).below (W' := ((w.alloc (.cells #[.int .i64 0, .int .i64 0, .int .i64 0, .int .i64 0] 26)).alloc (.cells #[.int .i64 0, .int .i64 0, .int .i64 0, .int .i64 0] 26))) (by (repeat' (first | (with_reducible exact Below.refl _ _) | (with_reducible refine Below.alloc ?_ ?_ _) | (with_reducible refine Below.setCell ?_ ?_ _) | (with_reducible refine Below.drew ?_) | (with_reducible refine below_drewN ?_ _) | (with_reducible assumption) | (with_reducible refine below_after (by with_reducible assumption) ?_) | go_size)))
    (try simp only [World.size_alloc] at h)
    rw [hG] at h
    rw [hw0]; exact h
  have HQ : Hid (Bk4 w0 (GR + 1) 0 0 0 0) := by
    have h := (bk4_new (w.alloc (.cells #[.int .i64 0, .int .i64 0, .int .i64 0, .int .i64 0] 26)) 0 0 0 0 26).below (W' := ((w.alloc (.cells #[.int .i64 0, .int .i64 0, .int .i64 0, .int .i64 0] 26)).alloc (.cells #[.int .i64 0, .int .i64 0, .int .i64 0, .int .i64 0] 26))) (by (repeat' (first | (with_reducible exact Below.refl _ _) | (with_reducible refine Below.alloc ?_ ?_ _) | (with_reducible refine Below.setCell ?_ ?_ _) | (with_reducible refine Below.drew ?_) | (with_reducible refine below_drewN ?_ _) | (with_reducible assumption) | (with_reducible refine below_after (by with_reducible assumption) ?_) | go_size)))
    (try simp only [World.size_alloc] at h)
    rw [hG] at h
    rw [hw0]; exact h
  have HB : Hid (Below w.heap.size w w0) := by show Below w.heap.size w w0; rw [hw0]; (repeat' (first | (with_reducible exact Below.refl _ _) | (with_reducible refine Below.alloc ?_ ?_ _) | (with_reducible refine Below.setCell ?_ ?_ _) | (with_reducible refine Below.drew ?_) | (with_reducible refine below_drewN ?_ _) | (with_reducible assumption) | (with_reducible refine below_after (by with_reducible assumption) ?_) | go_size))
  clear hw0
  obtain ⟨GQ, hGQ⟩ : ∃ g, GR + 1 = g := ⟨_, rfl⟩
  rw [hGQ] at HQ ⊢
  have le_R : w.heap.size ≤ GR := by omega
  have le_Q : w.heap.size ≤ GQ := by omega
  have ne_Q_R : GQ ≠ GR := by omega
  have ne_R_Q : GR ≠ GQ := by omega
  clear hGQ
  have zR0 := HR.out.2.2
  have zQ0 := HQ.out.2.2
  obtain ⟨⟨qR0, qR1, qR2, qR3⟩, ⟨fR0, fR1, fR2, fR3⟩, zR⟩ := HR.out
  obtain ⟨⟨qQ0, qQ1, qQ2, qQ3⟩, ⟨fQ0, fQ1, fQ2, fQ3⟩, zQ⟩ := HQ.out
  go_wp2_with fail
  go_at_call 72
  refine (CF.out _ HB.out).mono ?_
  rintro e w1 ⟨sG, rfl, hs, hsl, hb⟩
  clear qR0 fR0 qR1 fR1 qR2 fR2 qR3 fR3 zR qQ0 fQ0 qQ1 fQ1 qQ2 fQ2 qQ3 fQ3 zQ
  have HR := Lib.hid (HR.out.below hb)
  have HQ := Lib.hid (HQ.out.below hb)
  have HB := Lib.hid (below_after hb HB.out)
  clear hb
  have HSR := Lib.hid hs
  have le_s : w.heap.size ≤ sG := by have := hsl; omega
  have ne_R_s : GR ≠ sG := by omega
  have ne_Q_s : GQ ≠ sG := by omega
  clear hs
  obtain ⟨⟨qR0, qR1, qR2, qR3⟩, ⟨fR0, fR1, fR2, fR3⟩, zR⟩ := HR.out
  obtain ⟨⟨qQ0, qQ1, qQ2, qQ3⟩, ⟨fQ0, fQ1, fQ2, fQ3⟩, zQ⟩ := HQ.out
  go_wp2_with fail
  go_at_call 71
  refine (l01AnyMatrix_any _ a n cap _ HSR.out).mono ?_
  rintro e w2 ⟨p, q, r, t, rfl, hg, hs⟩
  clear qR0 fR0 qR1 fR1 qR2 fR2 qR3 fR3 zR qQ0 fQ0 qQ1 fQ1 qQ2 fQ2 qQ3 fQ3 zQ
  have HR := Lib.hid (HR.out.growsX hg (by intro hh; injection hh with hh; exact ne_R_s hh.symm))
  have HQ := Lib.hid (HQ.out.growsX hg (by intro hh; injection hh with hh; exact ne_Q_s hh.symm))
  have HB := Lib.hid (Below.grown HB.out hg HB.out.size (fun k hk => by injection hk with hk; omega))
  have HSR := Lib.hid hs
  clear hg hs
  obtain ⟨⟨qR0, qR1, qR2, qR3⟩, ⟨fR0, fR1, fR2, fR3⟩, zR⟩ := HR.out
  obtain ⟨⟨qQ0, qQ1, qQ2, qQ3⟩, ⟨fQ0, fQ1, fQ2, fQ3⟩, zQ⟩ := HQ.out
  go_upto_region 3 with fail
  obtain ⟨GA, hGA⟩ : ∃ g, w2.heap.size = g := ⟨_, rfl⟩
  obtain ⟨w3, hw3⟩ : ∃ wx, wx = w2.alloc (.cells #[.int .i64 p, .int .i64 q, .int .i64 r, .int .i64 t] 26) := ⟨_, rfl⟩
  rw [← hw3, hGA]
  have HA : Hid (Bk4 w3 GA p q r t) := by rw [hw3, ← hGA]; exact bk4_new w2 p q r t _
  have le_A : w.heap.size ≤ GA := by rw [← hGA]; exact HB.out.size
  have ne_A_R : GA ≠ GR := by have := HR.out.2.2; omega
  have ne_R_A : GR ≠ GA := Ne.symm ne_A_R
  have ne_A_Q : GA ≠ GQ := by have := HQ.out.2.2; omega
  have ne_Q_A : GQ ≠ GA := Ne.symm ne_A_Q
  have lt_s_A : sG < GA := by have := HSR.out.lt; omega
  have ne_A_s : GA ≠ sG := by omega
  clear qR0 fR0 qR1 fR1 qR2 fR2 qR3 fR3 zR qQ0 fQ0 qQ1 fQ1 qQ2 fQ2 qQ3 fQ3 zQ
  have HR := Lib.hid (HR.out.below ((Below.refl _ _).alloc (Nat.le_refl _) (.cells #[.int .i64 p, .int .i64 q, .int .i64 r, .int .i64 t] 26)))
  have HQ := Lib.hid (HQ.out.below ((Below.refl _ _).alloc (Nat.le_refl _) (.cells #[.int .i64 p, .int .i64 q, .int .i64 r, .int .i64 t] 26)))
  have HSR := Lib.hid (HSR.out.below ((Below.refl _ _).alloc (Nat.le_refl _) (.cells #[.int .i64 p, .int .i64 q, .int .i64 r, .int .i64 t] 26)))
  have HB := Lib.hid (Below.alloc HB.out HB.out.size (.cells #[.int .i64 p, .int .i64 q, .int .i64 r, .int .i64 t] 26))
  rw [← hw3] at HR HQ HSR HB
  clear hw3 hGA
  go_wp2_with fail
  refine wp_region_held_drew (S := fun W => Below w.heap.size w W ∧ Bk4 W GA p q r t) (by kernel_rfl) ?_ (fun hHeld => ?_); focus ((try dsimp only); exact ⟨Below.drew HB.out, HA.out.below (Below.drew (Below.refl _ _))⟩)
  have HR := Lib.hid (HR.out.below (Below.drew (Below.refl _ _)))
  have HQ := Lib.hid (HQ.out.below (Below.drew (Below.refl _ _)))
  have HA := Lib.hid (HA.out.below (Below.drew (Below.refl _ _)))
  have HSR := Lib.hid (HSR.out.below (Below.drew (Below.refl _ _)))
  have hHeld : (fun W => Below w.heap.size w W ∧ Bk4 W GA p q r t) _ := hHeld
  obtain ⟨wD3, hwD3⟩ : ∃ wD, w3.drew = wD := ⟨_, rfl⟩
  rw [hwD3] at hHeld HR HQ HA HSR ⊢
  clear hwD3
  (refine wpAnyH_take (i := 0) (v := ?_) rfl (by kernel_rfl) (by kernel_rfl) (by kernel_rfl) (fun _ _ _ h => h) (Or.inl ⟨rfl, ?_⟩) (by assumption) ?_; rotate_left; focus (intro W hSw; (try dsimp only at hSw); obtain ⟨hSb, hxA⟩ := hSw; obtain ⟨⟨iA0, iA1, iA2, iA3⟩, _, _⟩ := hxA; go_simp; try (with_reducible rfl))); (try simp only [Act.put, List.getElem_toArray, List.getElem_cons_succ, List.getElem_cons_zero, List.setIfInBounds_toArray, List.set_cons_zero, List.set_cons_succ])
  (refine wpAnyH_take (i := 1) (v := ?_) rfl (by kernel_rfl) (by kernel_rfl) (by kernel_rfl) (fun _ _ _ h => h) (Or.inl ⟨rfl, ?_⟩) (by assumption) ?_; rotate_left; focus (intro W hSw; (try dsimp only at hSw); obtain ⟨hSb, hxA⟩ := hSw; obtain ⟨⟨iA0, iA1, iA2, iA3⟩, _, _⟩ := hxA; go_simp; try (with_reducible rfl))); (try simp only [Act.put, List.getElem_toArray, List.getElem_cons_succ, List.getElem_cons_zero, List.setIfInBounds_toArray, List.set_cons_zero, List.set_cons_succ])
  refine wpAnyH_ready (rs := [2]) (by kernel_rfl) (by simp) ?_; refine AllReadyH.cons rfl (fun K hK => ?_) AllReadyH.nil
  go_simp; (go_at_call 71; refine (l01AnyMatrix_any _ a n cap _ HSR.out).mono ?_; rintro en ywr3x0 ⟨p1, q1, r1, t1, rfl, hg, hs⟩)
  have HR := Lib.hid (HR.out.growsX hg (by intro hh; injection hh with hh; exact ne_R_s hh.symm))
  have HQ := Lib.hid (HQ.out.growsX hg (by intro hh; injection hh with hh; exact ne_Q_s hh.symm))
  have HA := Lib.hid (HA.out.growsX hg (by intro hh; injection hh with hh; exact ne_A_s hh.symm))
  have hBn := Below.grown hHeld.1 hg (Below.size hHeld.1) (fun k hk => by injection hk with hk; omega)
  have HSR := Lib.hid hs
  clear hg hs
  refine hK.out _ _ ⟨hBn, HA.out⟩ (fun hHeld2 => ?_); clear hBn; (clear hHeld; rename _ => hHeld; clear hK K; have hHeld : (fun W => Below w.heap.size w W ∧ Bk4 W GA p q r t) _ := hHeld); (try simp only [Act.put, List.getElem_toArray, List.getElem_cons_succ, List.getElem_cons_zero, List.setIfInBounds_toArray, List.set_cons_zero, List.set_cons_succ])
  refine wpAnyH_ready (rs := [3]) (by kernel_rfl) (by simp) ?_; refine AllReadyH.cons rfl (fun K hK => ?_) AllReadyH.nil
  clear HSR
  obtain ⟨⟨a0, a1, a2, a3⟩, ⟨f0, f1, f2, f3⟩, az⟩ := HR.out; go_simp; clear a0 f0 a1 f1 a2 f2 a3 f3 az
  have HQ := Lib.hid ((((HQ.out.far ⟨GR, 0, none⟩ (.int .i64 p) (by show GQ ≠ GR; exact ne_Q_R)).far ⟨GR, 1, none⟩ (.int .i64 q) (by show GQ ≠ GR; exact ne_Q_R)).far ⟨GR, 2, none⟩ (.int .i64 r) (by show GQ ≠ GR; exact ne_Q_R)).far ⟨GR, 3, none⟩ (.int .i64 t) (by show GQ ≠ GR; exact ne_Q_R))
  have HA := Lib.hid ((((HA.out.far ⟨GR, 0, none⟩ (.int .i64 p) (by show GA ≠ GR; exact ne_A_R)).far ⟨GR, 1, none⟩ (.int .i64 q) (by show GA ≠ GR; exact ne_A_R)).far ⟨GR, 2, none⟩ (.int .i64 r) (by show GA ≠ GR; exact ne_A_R)).far ⟨GR, 3, none⟩ (.int .i64 t) (by show GA ≠ GR; exact ne_A_R))
  have HR := Lib.hid ((((HR.out.set0 p).set1 q).set2 r).set3 t)
  refine hK.out _ _ ⟨(Below.setCell (Below.setCell (Below.setCell (Below.setCell hHeld.1 (p := ⟨GR, 0, none⟩) le_R _) (p := ⟨GR, 1, none⟩) le_R _) (p := ⟨GR, 2, none⟩) le_R _) (p := ⟨GR, 3, none⟩) le_R _), HA.out⟩ (fun hHeld2 => ?_); (clear hHeld; rename _ => hHeld; clear hK K; have hHeld : (fun W => Below w.heap.size w W ∧ Bk4 W GA p q r t) _ := hHeld); (try simp only [Act.put, List.getElem_toArray, List.getElem_cons_succ, List.getElem_cons_zero, List.setIfInBounds_toArray, List.set_cons_zero, List.set_cons_succ])
  obtain ⟨ywr3x1, hwx⟩ : ∃ wx, (((ywr3x0.setCell ⟨GR, 0, none⟩ (.int .i64 p)).setCell ⟨GR, 1, none⟩ (.int .i64 q)).setCell ⟨GR, 2, none⟩ (.int .i64 r)).setCell ⟨GR, 3, none⟩ (.int .i64 t) = wx := ⟨_, rfl⟩; rw [hwx] at HR HQ HA hHeld ⊢; clear hwx
  refine wpAnyH_ready (rs := [4]) (by kernel_rfl) (by simp) ?_; refine AllReadyH.cons rfl (fun K hK => ?_) AllReadyH.nil
  obtain ⟨⟨a0, a1, a2, a3⟩, ⟨f0, f1, f2, f3⟩, az⟩ := HQ.out; go_simp; clear a0 f0 a1 f1 a2 f2 a3 f3 az
  have HR := Lib.hid ((((HR.out.far ⟨GQ, 0, none⟩ (.int .i64 p1) (by show GR ≠ GQ; exact ne_R_Q)).far ⟨GQ, 1, none⟩ (.int .i64 q1) (by show GR ≠ GQ; exact ne_R_Q)).far ⟨GQ, 2, none⟩ (.int .i64 r1) (by show GR ≠ GQ; exact ne_R_Q)).far ⟨GQ, 3, none⟩ (.int .i64 t1) (by show GR ≠ GQ; exact ne_R_Q))
  have HA := Lib.hid ((((HA.out.far ⟨GQ, 0, none⟩ (.int .i64 p1) (by show GA ≠ GQ; exact ne_A_Q)).far ⟨GQ, 1, none⟩ (.int .i64 q1) (by show GA ≠ GQ; exact ne_A_Q)).far ⟨GQ, 2, none⟩ (.int .i64 r1) (by show GA ≠ GQ; exact ne_A_Q)).far ⟨GQ, 3, none⟩ (.int .i64 t1) (by show GA ≠ GQ; exact ne_A_Q))
  have HQ := Lib.hid ((((HQ.out.set0 p1).set1 q1).set2 r1).set3 t1)
  refine hK.out _ _ ⟨(Below.setCell (Below.setCell (Below.setCell (Below.setCell hHeld.1 (p := ⟨GQ, 0, none⟩) le_Q _) (p := ⟨GQ, 1, none⟩) le_Q _) (p := ⟨GQ, 2, none⟩) le_Q _) (p := ⟨GQ, 3, none⟩) le_Q _), HA.out⟩ (fun hHeld2 => ?_); (clear hHeld; rename _ => hHeld; clear hK K; have hHeld : (fun W => Below w.heap.size w W ∧ Bk4 W GA p q r t) _ := hHeld); (try simp only [Act.put, List.getElem_toArray, List.getElem_cons_succ, List.getElem_cons_zero, List.setIfInBounds_toArray, List.set_cons_zero, List.set_cons_succ])
  obtain ⟨ywr3x2, hwx⟩ : ∃ wx, (((ywr3x1.setCell ⟨GQ, 0, none⟩ (.int .i64 p1)).setCell ⟨GQ, 1, none⟩ (.int .i64 q1)).setCell ⟨GQ, 2, none⟩ (.int .i64 r1)).setCell ⟨GQ, 3, none⟩ (.int .i64 t1) = wx := ⟨_, rfl⟩; rw [hwx] at HR HQ HA hHeld ⊢; clear hwx
  refine wpAnyH_done (by kernel_rfl) ?_ _
  have HB := Lib.hid (hHeld.1)
  clear hHeld
  obtain ⟨⟨qR0, qR1, qR2, qR3⟩, ⟨fR0, fR1, fR2, fR3⟩, zR⟩ := HR.out
  obtain ⟨⟨qQ0, qQ1, qQ2, qQ3⟩, ⟨fQ0, fQ1, fQ2, fQ3⟩, zQ⟩ := HQ.out
  obtain ⟨⟨qA0, qA1, qA2, qA3⟩, ⟨fA0, fA1, fA2, fA3⟩, zA⟩ := HA.out
  go_wp2_with fail
  refine bodyPost_ret (v := .tuple #[.agg #[.int .i64 p, .int .i64 q, .int .i64 r, .int .i64 t], .agg #[.int .i64 p1, .int .i64 q1, .int .i64 r1, .int .i64 t1]]) (by simp (maxDischargeDepth := 8) [results, Try.results33, go_sem, *]) rfl ?_
  have hb := HB.out
  exact ⟨p, q, r, t, p1, q1, r1, t1, rfl, hb⟩
set_option maxHeartbeats 6000000 in
theorem DrawDistanceOf_any (a : Option Addr) (n cap : Nat) (w : World) (hn : n ≤ 9223372036854775807) (hb : Byt w w.heap.size a n) :
    Calls Try.prog 22 #[.slice a n cap] w fun e w' => ∃ x0 y0 x1 y1 x2 y2 : Int, e = .returned (.tuple #[.agg #[.int .i64 x0, .int .i64 y0], .agg #[.int .i64 x1, .int .i64 y1], .agg #[.int .i64 x2, .int .i64 y2]]) ∧ Below w.heap.size w w' := by
  have CF : Hid (∀ W, Below w.heap.size w W → Calls Try.prog 72 #[.slice a n cap] W fun e w' => ∃ s, e = .returned (.pointer (some ⟨s, 0, none⟩)) ∧ Sr w' s a n cap ∧ (w.heap.size ≤ s ∧ W.heap.size ≤ s) ∧ Below W.heap.size W w') := fun W hW => (l01From_any a n cap W hn (hb.over hW)).mono (by rintro e w' ⟨rfl, h1, h2⟩; exact ⟨_, rfl, h2, ⟨hW.size, Nat.le_refl _⟩, h1⟩)
  clear hb
  obtain ⟨GR, hG⟩ : ∃ G, w.heap.size = G := ⟨_, rfl⟩
  have HG := Lib.hid hG
  go_enter Try.func22, Try.ntmps22
  go_upto_region 1 with fail
  obtain ⟨w0, hw0⟩ : ∃ w0, w0 = (((w.alloc (.cells #[.int .i64 0, .int .i64 0] 30)).alloc (.cells #[.int .i64 0, .int .i64 0] 30)).alloc (.cells #[.int .i64 0, .int .i64 0] 30)) := ⟨_, rfl⟩
  rw [← hw0]
  have HR : Hid (Bk2 w0 GR 0 0) := by
    have h := (bk2_new w 0 0 30).below (W' := (((w.alloc (.cells #[.int .i64 0, .int .i64 0] 30)).alloc (.cells #[.int .i64 0, .int .i64 0] 30)).alloc (.cells #[.int .i64 0, .int .i64 0] 30))) (by (repeat' (first | (with_reducible exact Below.refl _ _) | (with_reducible refine Below.alloc ?_ ?_ _) | (with_reducible refine Below.setCell ?_ ?_ _) | (with_reducible refine Below.drew ?_) | (with_reducible refine below_drewN ?_ _) | (with_reducible assumption) | (with_reducible refine below_after (by with_reducible assumption) ?_) | go_size)))
    (try simp only [World.size_alloc] at h)
    rw [hG] at h
    rw [hw0]; exact h
  have HQ : Hid (Bk2 w0 (GR + 1) 0 0) := by
    have h := (bk2_new (w.alloc (.cells #[.int .i64 0, .int .i64 0] 30)) 0 0 30).below (W' := (((w.alloc (.cells #[.int .i64 0, .int .i64 0] 30)).alloc (.cells #[.int .i64 0, .int .i64 0] 30)).alloc (.cells #[.int .i64 0, .int .i64 0] 30))) (by (repeat' (first | (with_reducible exact Below.refl _ _) | (with_reducible refine Below.alloc ?_ ?_ _) | (with_reducible refine Below.setCell ?_ ?_ _) | (with_reducible refine Below.drew ?_) | (with_reducible refine below_drewN ?_ _) | (with_reducible assumption) | (with_reducible refine below_after (by with_reducible assumption) ?_) | go_size)))
    (try simp only [World.size_alloc] at h)
    rw [hG] at h
    rw [hw0]; exact h
  have HR0 : Hid (Bk2 w0 (GR + 1 + 1) 0 0) := by
    have h := (bk2_new ((w.alloc (.cells #[.int .i64 0, .int .i64 0] 30)).alloc (.cells #[.int .i64 0, .int .i64 0] 30)) 0 0 30).below (W' := (((w.alloc (.cells #[.int .i64 0, .int .i64 0] 30)).alloc (.cells #[.int .i64 0, .int .i64 0] 30)).alloc (.cells #[.int .i64 0, .int .i64 0] 30))) (by (repeat' (first | (with_reducible exact Below.refl _ _) | (with_reducible refine Below.alloc ?_ ?_ _) | (with_reducible refine Below.setCell ?_ ?_ _) | (with_reducible refine Below.drew ?_) | (with_reducible refine below_drewN ?_ _) | (with_reducible assumption) | (with_reducible refine below_after (by with_reducible assumption) ?_) | go_size)))
    (try simp only [World.size_alloc] at h)
    rw [hG] at h
    rw [hw0]; exact h
  have HB : Hid (Below w.heap.size w w0) := by show Below w.heap.size w w0; rw [hw0]; (repeat' (first | (with_reducible exact Below.refl _ _) | (with_reducible refine Below.alloc ?_ ?_ _) | (with_reducible refine Below.setCell ?_ ?_ _) | (with_reducible refine Below.drew ?_) | (with_reducible refine below_drewN ?_ _) | (with_reducible assumption) | (with_reducible refine below_after (by with_reducible assumption) ?_) | go_size))
  clear hw0
  obtain ⟨GR0, hGR0⟩ : ∃ g, GR + 1 + 1 = g := ⟨_, rfl⟩
  rw [hGR0] at HR0 ⊢
  obtain ⟨GQ, hGQ⟩ : ∃ g, GR + 1 = g := ⟨_, rfl⟩
  rw [hGQ] at HQ ⊢
  have le_R : w.heap.size ≤ GR := by omega
  have le_Q : w.heap.size ≤ GQ := by omega
  have ne_Q_R : GQ ≠ GR := by omega
  have ne_R_Q : GR ≠ GQ := by omega
  have le_R0 : w.heap.size ≤ GR0 := by omega
  have ne_R0_R : GR0 ≠ GR := by omega
  have ne_R_R0 : GR ≠ GR0 := by omega
  have ne_R0_Q : GR0 ≠ GQ := by omega
  have ne_Q_R0 : GQ ≠ GR0 := by omega
  clear hGQ hGR0
  have zR0 := HR.out.2.2
  have zQ0 := HQ.out.2.2
  have zR00 := HR0.out.2.2
  obtain ⟨⟨qR0, qR1⟩, ⟨fR0, fR1⟩, zR⟩ := HR.out
  obtain ⟨⟨qQ0, qQ1⟩, ⟨fQ0, fQ1⟩, zQ⟩ := HQ.out
  obtain ⟨⟨qR00, qR01⟩, ⟨fR00, fR01⟩, zR0⟩ := HR0.out
  go_wp2_with fail
  go_at_call 72
  refine (CF.out _ HB.out).mono ?_
  rintro e w1 ⟨sG, rfl, hs, hsl, hb⟩
  clear qR0 fR0 qR1 fR1 zR qQ0 fQ0 qQ1 fQ1 zQ qR00 fR00 qR01 fR01 zR0
  have HR := Lib.hid (HR.out.below hb)
  have HQ := Lib.hid (HQ.out.below hb)
  have HR0 := Lib.hid (HR0.out.below hb)
  have HB := Lib.hid (below_after hb HB.out)
  clear hb
  have HSR := Lib.hid hs
  have le_s : w.heap.size ≤ sG := by have := hsl; omega
  have ne_R_s : GR ≠ sG := by omega
  have ne_Q_s : GQ ≠ sG := by omega
  have ne_R0_s : GR0 ≠ sG := by omega
  clear hs
  obtain ⟨⟨qR0, qR1⟩, ⟨fR0, fR1⟩, zR⟩ := HR.out
  obtain ⟨⟨qQ0, qQ1⟩, ⟨fQ0, fQ1⟩, zQ⟩ := HQ.out
  obtain ⟨⟨qR00, qR01⟩, ⟨fR00, fR01⟩, zR0⟩ := HR0.out
  go_wp2_with fail
  go_at_call 78
  refine (l01Spoil_any _ a n cap _ HSR.out).mono ?_
  rintro e w2 ⟨x0, y0, rfl, hg, hs⟩
  clear qR0 fR0 qR1 fR1 zR qQ0 fQ0 qQ1 fQ1 zQ qR00 fR00 qR01 fR01 zR0
  have HR := Lib.hid (HR.out.growsX hg (by intro hh; injection hh with hh; exact ne_R_s hh.symm))
  have HQ := Lib.hid (HQ.out.growsX hg (by intro hh; injection hh with hh; exact ne_Q_s hh.symm))
  have HR0 := Lib.hid (HR0.out.growsX hg (by intro hh; injection hh with hh; exact ne_R0_s hh.symm))
  have HB := Lib.hid (Below.grown HB.out hg HB.out.size (fun k hk => by injection hk with hk; omega))
  have HSR := Lib.hid hs
  clear hg hs
  obtain ⟨⟨qR0, qR1⟩, ⟨fR0, fR1⟩, zR⟩ := HR.out
  obtain ⟨⟨qQ0, qQ1⟩, ⟨fQ0, fQ1⟩, zQ⟩ := HQ.out
  obtain ⟨⟨qR00, qR01⟩, ⟨fR00, fR01⟩, zR0⟩ := HR0.out
  go_upto_region 3 with fail
  obtain ⟨GA, hGA⟩ : ∃ g, w2.heap.size = g := ⟨_, rfl⟩
  obtain ⟨w3, hw3⟩ : ∃ wx, wx = w2.alloc (.cells #[.int .i64 x0, .int .i64 y0] 30) := ⟨_, rfl⟩
  rw [← hw3, hGA]
  have HA : Hid (Bk2 w3 GA x0 y0) := by rw [hw3, ← hGA]; exact bk2_new w2 x0 y0 _
  have le_A : w.heap.size ≤ GA := by rw [← hGA]; exact HB.out.size
  have ne_A_R : GA ≠ GR := by have := HR.out.2.2; omega
  have ne_R_A : GR ≠ GA := Ne.symm ne_A_R
  have ne_A_Q : GA ≠ GQ := by have := HQ.out.2.2; omega
  have ne_Q_A : GQ ≠ GA := Ne.symm ne_A_Q
  have ne_A_R0 : GA ≠ GR0 := by have := HR0.out.2.2; omega
  have ne_R0_A : GR0 ≠ GA := Ne.symm ne_A_R0
  have lt_s_A : sG < GA := by have := HSR.out.lt; omega
  have ne_A_s : GA ≠ sG := by omega
  clear qR0 fR0 qR1 fR1 zR qQ0 fQ0 qQ1 fQ1 zQ qR00 fR00 qR01 fR01 zR0
  have HR := Lib.hid (HR.out.below ((Below.refl _ _).alloc (Nat.le_refl _) (.cells #[.int .i64 x0, .int .i64 y0] 30)))
  have HQ := Lib.hid (HQ.out.below ((Below.refl _ _).alloc (Nat.le_refl _) (.cells #[.int .i64 x0, .int .i64 y0] 30)))
  have HR0 := Lib.hid (HR0.out.below ((Below.refl _ _).alloc (Nat.le_refl _) (.cells #[.int .i64 x0, .int .i64 y0] 30)))
  have HSR := Lib.hid (HSR.out.below ((Below.refl _ _).alloc (Nat.le_refl _) (.cells #[.int .i64 x0, .int .i64 y0] 30)))
  have HB := Lib.hid (Below.alloc HB.out HB.out.size (.cells #[.int .i64 x0, .int .i64 y0] 30))
  rw [← hw3] at HR HQ HR0 HSR HB
  clear hw3 hGA
  obtain ⟨⟨qR0, qR1⟩, ⟨fR0, fR1⟩, zR⟩ := HR.out
  obtain ⟨⟨qQ0, qQ1⟩, ⟨fQ0, fQ1⟩, zQ⟩ := HQ.out
  obtain ⟨⟨qR00, qR01⟩, ⟨fR00, fR01⟩, zR0⟩ := HR0.out
  obtain ⟨⟨qA0, qA1⟩, ⟨fA0, fA1⟩, zA⟩ := HA.out
  go_wp2_with fail
  go_at_call 87
  refine (l01Next_any _ a n cap 12 _ HSR.out).mono ?_
  rintro e w4 ⟨v, rfl, -, -, hg, hs⟩
  clear qR0 fR0 qR1 fR1 zR qQ0 fQ0 qQ1 fQ1 zQ qR00 fR00 qR01 fR01 zR0 qA0 fA0 qA1 fA1 zA
  have HR := Lib.hid (HR.out.growsX hg (by intro hh; injection hh with hh; exact ne_R_s hh.symm))
  have HQ := Lib.hid (HQ.out.growsX hg (by intro hh; injection hh with hh; exact ne_Q_s hh.symm))
  have HR0 := Lib.hid (HR0.out.growsX hg (by intro hh; injection hh with hh; exact ne_R0_s hh.symm))
  have HA := Lib.hid (HA.out.growsX hg (by intro hh; injection hh with hh; exact ne_A_s hh.symm))
  have HB := Lib.hid (Below.grown HB.out hg HB.out.size (fun k hk => by injection hk with hk; omega))
  have HSR := Lib.hid hs
  clear hg hs
  by_cases hv0 : v = 0
  · subst hv0
    go_wp2_with fail
    refine wp_region_held_drew (S := fun W => Below w.heap.size w W ∧ Bk2 W GA x0 y0) (by kernel_rfl) ?_ (fun hHeld => ?_); focus ((try dsimp only); exact ⟨Below.drew HB.out, HA.out.below (Below.drew (Below.refl _ _))⟩)
    have HR := Lib.hid (HR.out.below (Below.drew (Below.refl _ _)))
    have HQ := Lib.hid (HQ.out.below (Below.drew (Below.refl _ _)))
    have HR0 := Lib.hid (HR0.out.below (Below.drew (Below.refl _ _)))
    have HA := Lib.hid (HA.out.below (Below.drew (Below.refl _ _)))
    have HSR := Lib.hid (HSR.out.below (Below.drew (Below.refl _ _)))
    have hHeld : (fun W => Below w.heap.size w W ∧ Bk2 W GA x0 y0) _ := hHeld
    obtain ⟨wD4, hwD4⟩ : ∃ wD, w4.drew = wD := ⟨_, rfl⟩
    rw [hwD4] at hHeld HR HQ HR0 HA HSR ⊢
    clear hwD4
    (refine wpAnyH_take (i := 0) (v := ?_) rfl (by kernel_rfl) (by kernel_rfl) (by kernel_rfl) (fun _ _ _ h => h) (Or.inl ⟨rfl, ?_⟩) (by assumption) ?_; rotate_left; focus (intro W hSw; (try dsimp only at hSw); obtain ⟨hSb, hxA⟩ := hSw; obtain ⟨⟨iA0, iA1⟩, _, _⟩ := hxA; go_simp; try (with_reducible rfl))); (try simp only [Act.put, List.getElem_toArray, List.getElem_cons_succ, List.getElem_cons_zero, List.setIfInBounds_toArray, List.set_cons_zero, List.set_cons_succ])
    (refine wpAnyH_take (i := 1) (v := ?_) rfl (by kernel_rfl) (by kernel_rfl) (by kernel_rfl) (fun _ _ _ h => h) (Or.inl ⟨rfl, ?_⟩) (by assumption) ?_; rotate_left; focus (intro W hSw; (try dsimp only at hSw); obtain ⟨hSb, hxA⟩ := hSw; obtain ⟨⟨iA0, iA1⟩, _, _⟩ := hxA; go_simp; try (with_reducible rfl))); (try simp only [Act.put, List.getElem_toArray, List.getElem_cons_succ, List.getElem_cons_zero, List.setIfInBounds_toArray, List.set_cons_zero, List.set_cons_succ])
    (refine wpAnyH_take (i := 2) (v := ?_) rfl (by kernel_rfl) (by kernel_rfl) (by kernel_rfl) (fun _ _ _ h => h) (Or.inl ⟨rfl, ?_⟩) (by assumption) ?_; rotate_left; focus (intro W hSw; (try dsimp only at hSw); obtain ⟨hSb, hxA⟩ := hSw; obtain ⟨⟨iA0, iA1⟩, _, _⟩ := hxA; go_simp; try (with_reducible rfl))); (try simp only [Act.put, List.getElem_toArray, List.getElem_cons_succ, List.getElem_cons_zero, List.setIfInBounds_toArray, List.set_cons_zero, List.set_cons_succ])
    refine wpAnyH_ready (rs := [3]) (by kernel_rfl) (by simp) ?_; refine AllReadyH.cons rfl (fun K hK => ?_) AllReadyH.nil
    go_simp; (go_at_call 78; refine (l01Spoil_any _ a n cap _ HSR.out).mono ?_; rintro en ywr4x0 ⟨x2, y2, rfl, hg, hs⟩)
    have HR := Lib.hid (HR.out.growsX hg (by intro hh; injection hh with hh; exact ne_R_s hh.symm))
    have HQ := Lib.hid (HQ.out.growsX hg (by intro hh; injection hh with hh; exact ne_Q_s hh.symm))
    have HR0 := Lib.hid (HR0.out.growsX hg (by intro hh; injection hh with hh; exact ne_R0_s hh.symm))
    have HA := Lib.hid (HA.out.growsX hg (by intro hh; injection hh with hh; exact ne_A_s hh.symm))
    have hBn := Below.grown hHeld.1 hg (Below.size hHeld.1) (fun k hk => by injection hk with hk; omega)
    have HSR := Lib.hid hs
    clear hg hs
    refine hK.out _ _ ⟨hBn, HA.out⟩ (fun hHeld2 => ?_); clear hBn; (clear hHeld; rename _ => hHeld; clear hK K; have hHeld : (fun W => Below w.heap.size w W ∧ Bk2 W GA x0 y0) _ := hHeld); (try simp only [Act.put, List.getElem_toArray, List.getElem_cons_succ, List.getElem_cons_zero, List.setIfInBounds_toArray, List.set_cons_zero, List.set_cons_succ])
    refine wpAnyH_ready (rs := [4]) (by kernel_rfl) (by simp) ?_; refine AllReadyH.cons rfl (fun K hK => ?_) AllReadyH.nil
    clear HSR
    obtain ⟨⟨a0, a1⟩, ⟨f0, f1⟩, az⟩ := HR.out; go_simp; clear a0 f0 a1 f1 az
    have HQ := Lib.hid ((HQ.out.far ⟨GR, 0, none⟩ (.int .i64 x0) (by show GQ ≠ GR; exact ne_Q_R)).far ⟨GR, 1, none⟩ (.int .i64 y0) (by show GQ ≠ GR; exact ne_Q_R))
    have HR0 := Lib.hid ((HR0.out.far ⟨GR, 0, none⟩ (.int .i64 x0) (by show GR0 ≠ GR; exact ne_R0_R)).far ⟨GR, 1, none⟩ (.int .i64 y0) (by show GR0 ≠ GR; exact ne_R0_R))
    have HA := Lib.hid ((HA.out.far ⟨GR, 0, none⟩ (.int .i64 x0) (by show GA ≠ GR; exact ne_A_R)).far ⟨GR, 1, none⟩ (.int .i64 y0) (by show GA ≠ GR; exact ne_A_R))
    have HR := Lib.hid ((HR.out.set0 x0).set1 y0)
    refine hK.out _ _ ⟨(Below.setCell (Below.setCell hHeld.1 (p := ⟨GR, 0, none⟩) le_R _) (p := ⟨GR, 1, none⟩) le_R _), HA.out⟩ (fun hHeld2 => ?_); (clear hHeld; rename _ => hHeld; clear hK K; have hHeld : (fun W => Below w.heap.size w W ∧ Bk2 W GA x0 y0) _ := hHeld); (try simp only [Act.put, List.getElem_toArray, List.getElem_cons_succ, List.getElem_cons_zero, List.setIfInBounds_toArray, List.set_cons_zero, List.set_cons_succ])
    obtain ⟨ywr4x1, hwx⟩ : ∃ wx, (ywr4x0.setCell ⟨GR, 0, none⟩ (.int .i64 x0)).setCell ⟨GR, 1, none⟩ (.int .i64 y0) = wx := ⟨_, rfl⟩; rw [hwx] at HR HQ HR0 HA hHeld ⊢; clear hwx
    refine wpAnyH_ready (rs := [5]) (by kernel_rfl) (by simp) ?_; refine AllReadyH.cons rfl (fun K hK => ?_) AllReadyH.nil
    obtain ⟨⟨a0, a1⟩, ⟨f0, f1⟩, az⟩ := HQ.out; go_simp; clear a0 f0 a1 f1 az
    have HR := Lib.hid ((HR.out.far ⟨GQ, 0, none⟩ (.int .i64 x0) (by show GR ≠ GQ; exact ne_R_Q)).far ⟨GQ, 1, none⟩ (.int .i64 y0) (by show GR ≠ GQ; exact ne_R_Q))
    have HR0 := Lib.hid ((HR0.out.far ⟨GQ, 0, none⟩ (.int .i64 x0) (by show GR0 ≠ GQ; exact ne_R0_Q)).far ⟨GQ, 1, none⟩ (.int .i64 y0) (by show GR0 ≠ GQ; exact ne_R0_Q))
    have HA := Lib.hid ((HA.out.far ⟨GQ, 0, none⟩ (.int .i64 x0) (by show GA ≠ GQ; exact ne_A_Q)).far ⟨GQ, 1, none⟩ (.int .i64 y0) (by show GA ≠ GQ; exact ne_A_Q))
    have HQ := Lib.hid ((HQ.out.set0 x0).set1 y0)
    refine hK.out _ _ ⟨(Below.setCell (Below.setCell hHeld.1 (p := ⟨GQ, 0, none⟩) le_Q _) (p := ⟨GQ, 1, none⟩) le_Q _), HA.out⟩ (fun hHeld2 => ?_); (clear hHeld; rename _ => hHeld; clear hK K; have hHeld : (fun W => Below w.heap.size w W ∧ Bk2 W GA x0 y0) _ := hHeld); (try simp only [Act.put, List.getElem_toArray, List.getElem_cons_succ, List.getElem_cons_zero, List.setIfInBounds_toArray, List.set_cons_zero, List.set_cons_succ])
    obtain ⟨ywr4x2, hwx⟩ : ∃ wx, (ywr4x1.setCell ⟨GQ, 0, none⟩ (.int .i64 x0)).setCell ⟨GQ, 1, none⟩ (.int .i64 y0) = wx := ⟨_, rfl⟩; rw [hwx] at HR HQ HR0 HA hHeld ⊢; clear hwx
    refine wpAnyH_ready (rs := [6]) (by kernel_rfl) (by simp) ?_; refine AllReadyH.cons rfl (fun K hK => ?_) AllReadyH.nil
    obtain ⟨⟨a0, a1⟩, ⟨f0, f1⟩, az⟩ := HR0.out; go_simp; clear a0 f0 a1 f1 az
    have HR := Lib.hid ((HR.out.far ⟨GR0, 0, none⟩ (.int .i64 x2) (by show GR ≠ GR0; exact ne_R_R0)).far ⟨GR0, 1, none⟩ (.int .i64 y2) (by show GR ≠ GR0; exact ne_R_R0))
    have HQ := Lib.hid ((HQ.out.far ⟨GR0, 0, none⟩ (.int .i64 x2) (by show GQ ≠ GR0; exact ne_Q_R0)).far ⟨GR0, 1, none⟩ (.int .i64 y2) (by show GQ ≠ GR0; exact ne_Q_R0))
    have HA := Lib.hid ((HA.out.far ⟨GR0, 0, none⟩ (.int .i64 x2) (by show GA ≠ GR0; exact ne_A_R0)).far ⟨GR0, 1, none⟩ (.int .i64 y2) (by show GA ≠ GR0; exact ne_A_R0))
    have HR0 := Lib.hid ((HR0.out.set0 x2).set1 y2)
    refine hK.out _ _ ⟨(Below.setCell (Below.setCell hHeld.1 (p := ⟨GR0, 0, none⟩) le_R0 _) (p := ⟨GR0, 1, none⟩) le_R0 _), HA.out⟩ (fun hHeld2 => ?_); (clear hHeld; rename _ => hHeld; clear hK K; have hHeld : (fun W => Below w.heap.size w W ∧ Bk2 W GA x0 y0) _ := hHeld); (try simp only [Act.put, List.getElem_toArray, List.getElem_cons_succ, List.getElem_cons_zero, List.setIfInBounds_toArray, List.set_cons_zero, List.set_cons_succ])
    obtain ⟨ywr4x3, hwx⟩ : ∃ wx, (ywr4x2.setCell ⟨GR0, 0, none⟩ (.int .i64 x2)).setCell ⟨GR0, 1, none⟩ (.int .i64 y2) = wx := ⟨_, rfl⟩; rw [hwx] at HR HQ HR0 HA hHeld ⊢; clear hwx
    refine wpAnyH_done (by kernel_rfl) ?_ _
    have HB := Lib.hid (hHeld.1)
    clear hHeld
    obtain ⟨⟨qR0, qR1⟩, ⟨fR0, fR1⟩, zR⟩ := HR.out
    obtain ⟨⟨qQ0, qQ1⟩, ⟨fQ0, fQ1⟩, zQ⟩ := HQ.out
    obtain ⟨⟨qR00, qR01⟩, ⟨fR00, fR01⟩, zR0⟩ := HR0.out
    obtain ⟨⟨qA0, qA1⟩, ⟨fA0, fA1⟩, zA⟩ := HA.out
    go_wp2_with fail
    refine bodyPost_ret (v := .tuple #[.agg #[.int .i64 x0, .int .i64 y0], .agg #[.int .i64 x0, .int .i64 y0], .agg #[.int .i64 x2, .int .i64 y2]]) (by simp (maxDischargeDepth := 8) [results, Try.results22, go_sem, *]) rfl ?_
    have hb := HB.out
    exact ⟨x0, y0, x0, y0, x2, y2, rfl, hb⟩
  · have hne : (v == 0) = false := by simp [hv0]
    obtain ⟨⟨qR0, qR1⟩, ⟨fR0, fR1⟩, zR⟩ := HR.out
    obtain ⟨⟨qQ0, qQ1⟩, ⟨fQ0, fQ1⟩, zQ⟩ := HQ.out
    obtain ⟨⟨qR00, qR01⟩, ⟨fR00, fR01⟩, zR0⟩ := HR0.out
    obtain ⟨⟨qA0, qA1⟩, ⟨fA0, fA1⟩, zA⟩ := HA.out
    go_wp2_with fail
    go_at_call 78
    refine (l01Spoil_any _ a n cap _ HSR.out).mono ?_
    rintro e w5 ⟨x1, y1, rfl, hg, hs⟩
    clear qR0 fR0 qR1 fR1 zR qQ0 fQ0 qQ1 fQ1 zQ qR00 fR00 qR01 fR01 zR0 qA0 fA0 qA1 fA1 zA
    have HR := Lib.hid (HR.out.growsX hg (by intro hh; injection hh with hh; exact ne_R_s hh.symm))
    have HQ := Lib.hid (HQ.out.growsX hg (by intro hh; injection hh with hh; exact ne_Q_s hh.symm))
    have HR0 := Lib.hid (HR0.out.growsX hg (by intro hh; injection hh with hh; exact ne_R0_s hh.symm))
    have HA := Lib.hid (HA.out.growsX hg (by intro hh; injection hh with hh; exact ne_A_s hh.symm))
    have HB := Lib.hid (Below.grown HB.out hg HB.out.size (fun k hk => by injection hk with hk; omega))
    have HSR := Lib.hid hs
    clear hg hs
    obtain ⟨⟨qR0, qR1⟩, ⟨fR0, fR1⟩, zR⟩ := HR.out
    obtain ⟨⟨qQ0, qQ1⟩, ⟨fQ0, fQ1⟩, zQ⟩ := HQ.out
    obtain ⟨⟨qR00, qR01⟩, ⟨fR00, fR01⟩, zR0⟩ := HR0.out
    obtain ⟨⟨qA0, qA1⟩, ⟨fA0, fA1⟩, zA⟩ := HA.out
    go_upto_region 6 with fail
    obtain ⟨GC, hGC⟩ : ∃ g, w5.heap.size = g := ⟨_, rfl⟩
    obtain ⟨w6, hw6⟩ : ∃ wx, wx = w5.alloc (.cells #[.int .i64 x1, .int .i64 y1] 30) := ⟨_, rfl⟩
    rw [← hw6, hGC]
    have HC : Hid (Bk2 w6 GC x1 y1) := by rw [hw6, ← hGC]; exact bk2_new w5 x1 y1 _
    have le_C : w.heap.size ≤ GC := by rw [← hGC]; exact HB.out.size
    have ne_C_R : GC ≠ GR := by have := HR.out.2.2; omega
    have ne_R_C : GR ≠ GC := Ne.symm ne_C_R
    have ne_C_Q : GC ≠ GQ := by have := HQ.out.2.2; omega
    have ne_Q_C : GQ ≠ GC := Ne.symm ne_C_Q
    have ne_C_R0 : GC ≠ GR0 := by have := HR0.out.2.2; omega
    have ne_R0_C : GR0 ≠ GC := Ne.symm ne_C_R0
    have ne_C_A : GC ≠ GA := by have := HA.out.2.2; omega
    have ne_A_C : GA ≠ GC := Ne.symm ne_C_A
    have lt_s_C : sG < GC := by have := HSR.out.lt; omega
    have ne_C_s : GC ≠ sG := by omega
    clear qR0 fR0 qR1 fR1 zR qQ0 fQ0 qQ1 fQ1 zQ qR00 fR00 qR01 fR01 zR0 qA0 fA0 qA1 fA1 zA
    have HR := Lib.hid (HR.out.below ((Below.refl _ _).alloc (Nat.le_refl _) (.cells #[.int .i64 x1, .int .i64 y1] 30)))
    have HQ := Lib.hid (HQ.out.below ((Below.refl _ _).alloc (Nat.le_refl _) (.cells #[.int .i64 x1, .int .i64 y1] 30)))
    have HR0 := Lib.hid (HR0.out.below ((Below.refl _ _).alloc (Nat.le_refl _) (.cells #[.int .i64 x1, .int .i64 y1] 30)))
    have HA := Lib.hid (HA.out.below ((Below.refl _ _).alloc (Nat.le_refl _) (.cells #[.int .i64 x1, .int .i64 y1] 30)))
    have HSR := Lib.hid (HSR.out.below ((Below.refl _ _).alloc (Nat.le_refl _) (.cells #[.int .i64 x1, .int .i64 y1] 30)))
    have HB := Lib.hid (Below.alloc HB.out HB.out.size (.cells #[.int .i64 x1, .int .i64 y1] 30))
    rw [← hw6] at HR HQ HR0 HA HSR HB
    clear hw6 hGC
    go_wp2_with fail
    refine wp_region_held_drew (S := fun W => Below w.heap.size w W ∧ Bk2 W GA x0 y0 ∧ Bk2 W GC x1 y1) (by kernel_rfl) ?_ (fun hHeld => ?_); focus ((try dsimp only); exact ⟨Below.drew HB.out, HA.out.below (Below.drew (Below.refl _ _)), HC.out.below (Below.drew (Below.refl _ _))⟩)
    have HR := Lib.hid (HR.out.below (Below.drew (Below.refl _ _)))
    have HQ := Lib.hid (HQ.out.below (Below.drew (Below.refl _ _)))
    have HR0 := Lib.hid (HR0.out.below (Below.drew (Below.refl _ _)))
    have HA := Lib.hid (HA.out.below (Below.drew (Below.refl _ _)))
    have HC := Lib.hid (HC.out.below (Below.drew (Below.refl _ _)))
    have HSR := Lib.hid (HSR.out.below (Below.drew (Below.refl _ _)))
    have hHeld : (fun W => Below w.heap.size w W ∧ Bk2 W GA x0 y0 ∧ Bk2 W GC x1 y1) _ := hHeld
    obtain ⟨wD6, hwD6⟩ : ∃ wD, w6.drew = wD := ⟨_, rfl⟩
    rw [hwD6] at hHeld HR HQ HR0 HA HC HSR ⊢
    clear hwD6
    (refine wpAnyH_take (i := 0) (v := ?_) rfl (by kernel_rfl) (by kernel_rfl) (by kernel_rfl) (fun _ _ _ h => h) (Or.inl ⟨rfl, ?_⟩) (by assumption) ?_; rotate_left; focus (intro W hSw; (try dsimp only at hSw); obtain ⟨hSb, hxA, hxC⟩ := hSw; obtain ⟨⟨iA0, iA1⟩, _, _⟩ := hxA; obtain ⟨⟨iC0, iC1⟩, _, _⟩ := hxC; go_simp; try (with_reducible rfl))); (try simp only [Act.put, List.getElem_toArray, List.getElem_cons_succ, List.getElem_cons_zero, List.setIfInBounds_toArray, List.set_cons_zero, List.set_cons_succ])
    (refine wpAnyH_take (i := 1) (v := ?_) rfl (by kernel_rfl) (by kernel_rfl) (by kernel_rfl) (fun _ _ _ h => h) (Or.inl ⟨rfl, ?_⟩) (by assumption) ?_; rotate_left; focus (intro W hSw; (try dsimp only at hSw); obtain ⟨hSb, hxA, hxC⟩ := hSw; obtain ⟨⟨iA0, iA1⟩, _, _⟩ := hxA; obtain ⟨⟨iC0, iC1⟩, _, _⟩ := hxC; go_simp; try (with_reducible rfl))); (try simp only [Act.put, List.getElem_toArray, List.getElem_cons_succ, List.getElem_cons_zero, List.setIfInBounds_toArray, List.set_cons_zero, List.set_cons_succ])
    (refine wpAnyH_take (i := 2) (v := ?_) rfl (by kernel_rfl) (by kernel_rfl) (by kernel_rfl) (fun _ _ _ h => h) (Or.inl ⟨rfl, ?_⟩) (by assumption) ?_; rotate_left; focus (intro W hSw; (try dsimp only at hSw); obtain ⟨hSb, hxA, hxC⟩ := hSw; obtain ⟨⟨iA0, iA1⟩, _, _⟩ := hxA; obtain ⟨⟨iC0, iC1⟩, _, _⟩ := hxC; go_simp; try (with_reducible rfl))); (try simp only [Act.put, List.getElem_toArray, List.getElem_cons_succ, List.getElem_cons_zero, List.setIfInBounds_toArray, List.set_cons_zero, List.set_cons_succ])
    refine wpAnyH_ready (rs := [3]) (by kernel_rfl) (by simp) ?_; refine AllReadyH.cons rfl (fun K hK => ?_) AllReadyH.nil
    go_simp; (go_at_call 78; refine (l01Spoil_any _ a n cap _ HSR.out).mono ?_; rintro en ywr6x0 ⟨x2, y2, rfl, hg, hs⟩)
    have HR := Lib.hid (HR.out.growsX hg (by intro hh; injection hh with hh; exact ne_R_s hh.symm))
    have HQ := Lib.hid (HQ.out.growsX hg (by intro hh; injection hh with hh; exact ne_Q_s hh.symm))
    have HR0 := Lib.hid (HR0.out.growsX hg (by intro hh; injection hh with hh; exact ne_R0_s hh.symm))
    have HA := Lib.hid (HA.out.growsX hg (by intro hh; injection hh with hh; exact ne_A_s hh.symm))
    have HC := Lib.hid (HC.out.growsX hg (by intro hh; injection hh with hh; exact ne_C_s hh.symm))
    have hBn := Below.grown hHeld.1 hg (Below.size hHeld.1) (fun k hk => by injection hk with hk; omega)
    have HSR := Lib.hid hs
    clear hg hs
    refine hK.out _ _ ⟨hBn, HA.out, HC.out⟩ (fun hHeld2 => ?_); clear hBn; (clear hHeld; rename _ => hHeld; clear hK K; have hHeld : (fun W => Below w.heap.size w W ∧ Bk2 W GA x0 y0 ∧ Bk2 W GC x1 y1) _ := hHeld); (try simp only [Act.put, List.getElem_toArray, List.getElem_cons_succ, List.getElem_cons_zero, List.setIfInBounds_toArray, List.set_cons_zero, List.set_cons_succ])
    refine wpAnyH_ready (rs := [4]) (by kernel_rfl) (by simp) ?_; refine AllReadyH.cons rfl (fun K hK => ?_) AllReadyH.nil
    clear HSR
    obtain ⟨⟨a0, a1⟩, ⟨f0, f1⟩, az⟩ := HR.out; go_simp; clear a0 f0 a1 f1 az
    have HQ := Lib.hid ((HQ.out.far ⟨GR, 0, none⟩ (.int .i64 x0) (by show GQ ≠ GR; exact ne_Q_R)).far ⟨GR, 1, none⟩ (.int .i64 y0) (by show GQ ≠ GR; exact ne_Q_R))
    have HR0 := Lib.hid ((HR0.out.far ⟨GR, 0, none⟩ (.int .i64 x0) (by show GR0 ≠ GR; exact ne_R0_R)).far ⟨GR, 1, none⟩ (.int .i64 y0) (by show GR0 ≠ GR; exact ne_R0_R))
    have HA := Lib.hid ((HA.out.far ⟨GR, 0, none⟩ (.int .i64 x0) (by show GA ≠ GR; exact ne_A_R)).far ⟨GR, 1, none⟩ (.int .i64 y0) (by show GA ≠ GR; exact ne_A_R))
    have HC := Lib.hid ((HC.out.far ⟨GR, 0, none⟩ (.int .i64 x0) (by show GC ≠ GR; exact ne_C_R)).far ⟨GR, 1, none⟩ (.int .i64 y0) (by show GC ≠ GR; exact ne_C_R))
    have HR := Lib.hid ((HR.out.set0 x0).set1 y0)
    refine hK.out _ _ ⟨(Below.setCell (Below.setCell hHeld.1 (p := ⟨GR, 0, none⟩) le_R _) (p := ⟨GR, 1, none⟩) le_R _), HA.out, HC.out⟩ (fun hHeld2 => ?_); (clear hHeld; rename _ => hHeld; clear hK K; have hHeld : (fun W => Below w.heap.size w W ∧ Bk2 W GA x0 y0 ∧ Bk2 W GC x1 y1) _ := hHeld); (try simp only [Act.put, List.getElem_toArray, List.getElem_cons_succ, List.getElem_cons_zero, List.setIfInBounds_toArray, List.set_cons_zero, List.set_cons_succ])
    obtain ⟨ywr6x1, hwx⟩ : ∃ wx, (ywr6x0.setCell ⟨GR, 0, none⟩ (.int .i64 x0)).setCell ⟨GR, 1, none⟩ (.int .i64 y0) = wx := ⟨_, rfl⟩; rw [hwx] at HR HQ HR0 HA HC hHeld ⊢; clear hwx
    refine wpAnyH_ready (rs := [5]) (by kernel_rfl) (by simp) ?_; refine AllReadyH.cons rfl (fun K hK => ?_) AllReadyH.nil
    obtain ⟨⟨a0, a1⟩, ⟨f0, f1⟩, az⟩ := HQ.out; go_simp; clear a0 f0 a1 f1 az
    have HR := Lib.hid ((HR.out.far ⟨GQ, 0, none⟩ (.int .i64 x1) (by show GR ≠ GQ; exact ne_R_Q)).far ⟨GQ, 1, none⟩ (.int .i64 y1) (by show GR ≠ GQ; exact ne_R_Q))
    have HR0 := Lib.hid ((HR0.out.far ⟨GQ, 0, none⟩ (.int .i64 x1) (by show GR0 ≠ GQ; exact ne_R0_Q)).far ⟨GQ, 1, none⟩ (.int .i64 y1) (by show GR0 ≠ GQ; exact ne_R0_Q))
    have HA := Lib.hid ((HA.out.far ⟨GQ, 0, none⟩ (.int .i64 x1) (by show GA ≠ GQ; exact ne_A_Q)).far ⟨GQ, 1, none⟩ (.int .i64 y1) (by show GA ≠ GQ; exact ne_A_Q))
    have HC := Lib.hid ((HC.out.far ⟨GQ, 0, none⟩ (.int .i64 x1) (by show GC ≠ GQ; exact ne_C_Q)).far ⟨GQ, 1, none⟩ (.int .i64 y1) (by show GC ≠ GQ; exact ne_C_Q))
    have HQ := Lib.hid ((HQ.out.set0 x1).set1 y1)
    refine hK.out _ _ ⟨(Below.setCell (Below.setCell hHeld.1 (p := ⟨GQ, 0, none⟩) le_Q _) (p := ⟨GQ, 1, none⟩) le_Q _), HA.out, HC.out⟩ (fun hHeld2 => ?_); (clear hHeld; rename _ => hHeld; clear hK K; have hHeld : (fun W => Below w.heap.size w W ∧ Bk2 W GA x0 y0 ∧ Bk2 W GC x1 y1) _ := hHeld); (try simp only [Act.put, List.getElem_toArray, List.getElem_cons_succ, List.getElem_cons_zero, List.setIfInBounds_toArray, List.set_cons_zero, List.set_cons_succ])
    obtain ⟨ywr6x2, hwx⟩ : ∃ wx, (ywr6x1.setCell ⟨GQ, 0, none⟩ (.int .i64 x1)).setCell ⟨GQ, 1, none⟩ (.int .i64 y1) = wx := ⟨_, rfl⟩; rw [hwx] at HR HQ HR0 HA HC hHeld ⊢; clear hwx
    refine wpAnyH_ready (rs := [6]) (by kernel_rfl) (by simp) ?_; refine AllReadyH.cons rfl (fun K hK => ?_) AllReadyH.nil
    obtain ⟨⟨a0, a1⟩, ⟨f0, f1⟩, az⟩ := HR0.out; go_simp; clear a0 f0 a1 f1 az
    have HR := Lib.hid ((HR.out.far ⟨GR0, 0, none⟩ (.int .i64 x2) (by show GR ≠ GR0; exact ne_R_R0)).far ⟨GR0, 1, none⟩ (.int .i64 y2) (by show GR ≠ GR0; exact ne_R_R0))
    have HQ := Lib.hid ((HQ.out.far ⟨GR0, 0, none⟩ (.int .i64 x2) (by show GQ ≠ GR0; exact ne_Q_R0)).far ⟨GR0, 1, none⟩ (.int .i64 y2) (by show GQ ≠ GR0; exact ne_Q_R0))
    have HA := Lib.hid ((HA.out.far ⟨GR0, 0, none⟩ (.int .i64 x2) (by show GA ≠ GR0; exact ne_A_R0)).far ⟨GR0, 1, none⟩ (.int .i64 y2) (by show GA ≠ GR0; exact ne_A_R0))
    have HC := Lib.hid ((HC.out.far ⟨GR0, 0, none⟩ (.int .i64 x2) (by show GC ≠ GR0; exact ne_C_R0)).far ⟨GR0, 1, none⟩ (.int .i64 y2) (by show GC ≠ GR0; exact ne_C_R0))
    have HR0 := Lib.hid ((HR0.out.set0 x2).set1 y2)
    refine hK.out _ _ ⟨(Below.setCell (Below.setCell hHeld.1 (p := ⟨GR0, 0, none⟩) le_R0 _) (p := ⟨GR0, 1, none⟩) le_R0 _), HA.out, HC.out⟩ (fun hHeld2 => ?_); (clear hHeld; rename _ => hHeld; clear hK K; have hHeld : (fun W => Below w.heap.size w W ∧ Bk2 W GA x0 y0 ∧ Bk2 W GC x1 y1) _ := hHeld); (try simp only [Act.put, List.getElem_toArray, List.getElem_cons_succ, List.getElem_cons_zero, List.setIfInBounds_toArray, List.set_cons_zero, List.set_cons_succ])
    obtain ⟨ywr6x3, hwx⟩ : ∃ wx, (ywr6x2.setCell ⟨GR0, 0, none⟩ (.int .i64 x2)).setCell ⟨GR0, 1, none⟩ (.int .i64 y2) = wx := ⟨_, rfl⟩; rw [hwx] at HR HQ HR0 HA HC hHeld ⊢; clear hwx
    refine wpAnyH_done (by kernel_rfl) ?_ _
    have HB := Lib.hid (hHeld.1)
    clear hHeld
    obtain ⟨⟨qR0, qR1⟩, ⟨fR0, fR1⟩, zR⟩ := HR.out
    obtain ⟨⟨qQ0, qQ1⟩, ⟨fQ0, fQ1⟩, zQ⟩ := HQ.out
    obtain ⟨⟨qR00, qR01⟩, ⟨fR00, fR01⟩, zR0⟩ := HR0.out
    obtain ⟨⟨qA0, qA1⟩, ⟨fA0, fA1⟩, zA⟩ := HA.out
    obtain ⟨⟨qC0, qC1⟩, ⟨fC0, fC1⟩, zC⟩ := HC.out
    go_wp2_with fail
    refine bodyPost_ret (v := .tuple #[.agg #[.int .i64 x0, .int .i64 y0], .agg #[.int .i64 x1, .int .i64 y1], .agg #[.int .i64 x2, .int .i64 y2]]) (by simp (maxDischargeDepth := 8) [results, Try.results22, go_sem, *]) rfl ?_
    have hb := HB.out
    exact ⟨x0, y0, x1, y1, x2, y2, rfl, hb⟩
theorem l01Plus_some (a b c d k : Int) (w : World) : Calls Try.prog 105 #[.agg #[.int .i64 a, .int .i64 b], .agg #[.int .i64 c, .int .i64 d], .int .i64 k] w fun e w' => ∃ x y : Int, e = .returned (.agg #[.int .i64 x, .int .i64 y]) ∧ Below w.heap.size w w' := by
  have hs20 : w.heap.size < w.heap.size + 1 + 1 := (by omega); have hs30 : w.heap.size < w.heap.size + 1 + 1 + 1 := (by omega); have hs31 : w.heap.size + 1 < w.heap.size + 1 + 1 + 1 := (by omega)
  go_enter Try.func105, Try.ntmps105
  go_wp2
  refine bodyPost_ret (v := .agg #[.int .i64 (wrap64 (a + wrap64 (k * c))), .int .i64 (wrap64 (b + wrap64 (k * d)))]) (by simp (maxDischargeDepth := 8) [results, Try.results105, go_sem, *]) rfl ?_
  exact ⟨_, _, rfl, by (repeat' (first | (with_reducible exact Below.refl _ _) | (with_reducible refine Below.alloc ?_ ?_ _) | (with_reducible refine Below.setCell ?_ ?_ _) | (with_reducible refine Below.drew ?_) | (with_reducible refine below_drewN ?_ _) | (with_reducible assumption) | (with_reducible refine below_after (by with_reducible assumption) ?_) | go_size))⟩
set_option maxHeartbeats 6000000 in
theorem DrawLengthOf_any (a : Option Addr) (n cap : Nat) (w : World) (hn : n ≤ 9223372036854775807) (hb : Byt w w.heap.size a n) :
    Calls Try.prog 35 #[.slice a n cap] w fun e w' => ∃ x0 y0 x1 y1 : Int, e = .returned (.tuple #[.agg #[.int .i64 x0, .int .i64 y0], .agg #[.int .i64 x1, .int .i64 y1]]) ∧ Below w.heap.size w w' := by
  have CF : Hid (∀ W, Below w.heap.size w W → Calls Try.prog 72 #[.slice a n cap] W fun e w' => ∃ s, e = .returned (.pointer (some ⟨s, 0, none⟩)) ∧ Sr w' s a n cap ∧ (w.heap.size ≤ s ∧ W.heap.size ≤ s) ∧ Below W.heap.size W w') := fun W hW => (l01From_any a n cap W hn (hb.over hW)).mono (by rintro e w' ⟨rfl, h1, h2⟩; exact ⟨_, rfl, h2, ⟨hW.size, Nat.le_refl _⟩, h1⟩)
  clear hb
  obtain ⟨GR, hG⟩ : ∃ G, w.heap.size = G := ⟨_, rfl⟩
  have HG := Lib.hid hG
  go_enter Try.func35, Try.ntmps35
  go_upto_region 1 with fail
  obtain ⟨w0, hw0⟩ : ∃ w0, w0 = ((w.alloc (.cells #[.int .i64 0, .int .i64 0] 30)).alloc (.cells #[.int .i64 0, .int .i64 0] 30)) := ⟨_, rfl⟩
  rw [← hw0]
  have HR : Hid (Bk2 w0 GR 0 0) := by
    have h := (bk2_new w 0 0 30).below (W' := ((w.alloc (.cells #[.int .i64 0, .int .i64 0] 30)).alloc (.cells #[.int .i64 0, .int .i64 0] 30))) (by (repeat' (first | (with_reducible exact Below.refl _ _) | (with_reducible refine Below.alloc ?_ ?_ _) | (with_reducible refine Below.setCell ?_ ?_ _) | (with_reducible refine Below.drew ?_) | (with_reducible refine below_drewN ?_ _) | (with_reducible assumption) | (with_reducible refine below_after (by with_reducible assumption) ?_) | go_size)))
    (try simp only [World.size_alloc] at h)
    rw [hG] at h
    rw [hw0]; exact h
  have HQ : Hid (Bk2 w0 (GR + 1) 0 0) := by
    have h := (bk2_new (w.alloc (.cells #[.int .i64 0, .int .i64 0] 30)) 0 0 30).below (W' := ((w.alloc (.cells #[.int .i64 0, .int .i64 0] 30)).alloc (.cells #[.int .i64 0, .int .i64 0] 30))) (by (repeat' (first | (with_reducible exact Below.refl _ _) | (with_reducible refine Below.alloc ?_ ?_ _) | (with_reducible refine Below.setCell ?_ ?_ _) | (with_reducible refine Below.drew ?_) | (with_reducible refine below_drewN ?_ _) | (with_reducible assumption) | (with_reducible refine below_after (by with_reducible assumption) ?_) | go_size)))
    (try simp only [World.size_alloc] at h)
    rw [hG] at h
    rw [hw0]; exact h
  have HB : Hid (Below w.heap.size w w0) := by show Below w.heap.size w w0; rw [hw0]; (repeat' (first | (with_reducible exact Below.refl _ _) | (with_reducible refine Below.alloc ?_ ?_ _) | (with_reducible refine Below.setCell ?_ ?_ _) | (with_reducible refine Below.drew ?_) | (with_reducible refine below_drewN ?_ _) | (with_reducible assumption) | (with_reducible refine below_after (by with_reducible assumption) ?_) | go_size))
  clear hw0
  obtain ⟨GQ, hGQ⟩ : ∃ g, GR + 1 = g := ⟨_, rfl⟩
  rw [hGQ] at HQ ⊢
  have le_R : w.heap.size ≤ GR := by omega
  have le_Q : w.heap.size ≤ GQ := by omega
  have ne_Q_R : GQ ≠ GR := by omega
  have ne_R_Q : GR ≠ GQ := by omega
  clear hGQ
  have zR0 := HR.out.2.2
  have zQ0 := HQ.out.2.2
  obtain ⟨⟨qR0, qR1⟩, ⟨fR0, fR1⟩, zR⟩ := HR.out
  obtain ⟨⟨qQ0, qQ1⟩, ⟨fQ0, fQ1⟩, zQ⟩ := HQ.out
  go_wp2_with fail
  go_at_call 72
  refine (CF.out _ HB.out).mono ?_
  rintro e w1 ⟨sG, rfl, hs, hsl, hb⟩
  clear qR0 fR0 qR1 fR1 zR qQ0 fQ0 qQ1 fQ1 zQ
  have HR := Lib.hid (HR.out.below hb)
  have HQ := Lib.hid (HQ.out.below hb)
  have HB := Lib.hid (below_after hb HB.out)
  clear hb
  have HSR := Lib.hid hs
  have le_s : w.heap.size ≤ sG := by have := hsl; omega
  have ne_R_s : GR ≠ sG := by omega
  have ne_Q_s : GQ ≠ sG := by omega
  clear hs
  obtain ⟨⟨qR0, qR1⟩, ⟨fR0, fR1⟩, zR⟩ := HR.out
  obtain ⟨⟨qQ0, qQ1⟩, ⟨fQ0, fQ1⟩, zQ⟩ := HQ.out
  go_wp2_with fail
  go_at_call 78
  refine (l01Spoil_any _ a n cap _ HSR.out).mono ?_
  rintro e w2 ⟨x0, y0, rfl, hg, hs⟩
  clear qR0 fR0 qR1 fR1 zR qQ0 fQ0 qQ1 fQ1 zQ
  have HR := Lib.hid (HR.out.growsX hg (by intro hh; injection hh with hh; exact ne_R_s hh.symm))
  have HQ := Lib.hid (HQ.out.growsX hg (by intro hh; injection hh with hh; exact ne_Q_s hh.symm))
  have HB := Lib.hid (Below.grown HB.out hg HB.out.size (fun k hk => by injection hk with hk; omega))
  have HSR := Lib.hid hs
  clear hg hs
  obtain ⟨⟨qR0, qR1⟩, ⟨fR0, fR1⟩, zR⟩ := HR.out
  obtain ⟨⟨qQ0, qQ1⟩, ⟨fQ0, fQ1⟩, zQ⟩ := HQ.out
  go_upto_region 3 with fail
  obtain ⟨GA, hGA⟩ : ∃ g, w2.heap.size = g := ⟨_, rfl⟩
  obtain ⟨w3, hw3⟩ : ∃ wx, wx = w2.alloc (.cells #[.int .i64 x0, .int .i64 y0] 30) := ⟨_, rfl⟩
  rw [← hw3, hGA]
  have HA : Hid (Bk2 w3 GA x0 y0) := by rw [hw3, ← hGA]; exact bk2_new w2 x0 y0 _
  have le_A : w.heap.size ≤ GA := by rw [← hGA]; exact HB.out.size
  have ne_A_R : GA ≠ GR := by have := HR.out.2.2; omega
  have ne_R_A : GR ≠ GA := Ne.symm ne_A_R
  have ne_A_Q : GA ≠ GQ := by have := HQ.out.2.2; omega
  have ne_Q_A : GQ ≠ GA := Ne.symm ne_A_Q
  have lt_s_A : sG < GA := by have := HSR.out.lt; omega
  have ne_A_s : GA ≠ sG := by omega
  clear qR0 fR0 qR1 fR1 zR qQ0 fQ0 qQ1 fQ1 zQ
  have HR := Lib.hid (HR.out.below ((Below.refl _ _).alloc (Nat.le_refl _) (.cells #[.int .i64 x0, .int .i64 y0] 30)))
  have HQ := Lib.hid (HQ.out.below ((Below.refl _ _).alloc (Nat.le_refl _) (.cells #[.int .i64 x0, .int .i64 y0] 30)))
  have HSR := Lib.hid (HSR.out.below ((Below.refl _ _).alloc (Nat.le_refl _) (.cells #[.int .i64 x0, .int .i64 y0] 30)))
  have HB := Lib.hid (Below.alloc HB.out HB.out.size (.cells #[.int .i64 x0, .int .i64 y0] 30))
  rw [← hw3] at HR HQ HSR HB
  clear hw3 hGA
  obtain ⟨⟨qR0, qR1⟩, ⟨fR0, fR1⟩, zR⟩ := HR.out
  obtain ⟨⟨qQ0, qQ1⟩, ⟨fQ0, fQ1⟩, zQ⟩ := HQ.out
  obtain ⟨⟨qA0, qA1⟩, ⟨fA0, fA1⟩, zA⟩ := HA.out
  go_wp2_with fail
  go_at_call 87
  refine (l01Next_any _ a n cap 3 _ HSR.out).mono ?_
  rintro e w4 ⟨v, rfl, -, -, hg, hs⟩
  clear qR0 fR0 qR1 fR1 zR qQ0 fQ0 qQ1 fQ1 zQ qA0 fA0 qA1 fA1 zA
  have HR := Lib.hid (HR.out.growsX hg (by intro hh; injection hh with hh; exact ne_R_s hh.symm))
  have HQ := Lib.hid (HQ.out.growsX hg (by intro hh; injection hh with hh; exact ne_Q_s hh.symm))
  have HA := Lib.hid (HA.out.growsX hg (by intro hh; injection hh with hh; exact ne_A_s hh.symm))
  have HB := Lib.hid (Below.grown HB.out hg HB.out.size (fun k hk => by injection hk with hk; omega))
  have HSR := Lib.hid hs
  clear hg hs
  by_cases hv0 : v = 0
  · subst hv0
    go_wp2_with fail
    refine wp_region_held_drew (S := fun W => Below w.heap.size w W ∧ Bk2 W GA x0 y0) (by kernel_rfl) ?_ (fun hHeld => ?_); focus ((try dsimp only); exact ⟨Below.drew HB.out, HA.out.below (Below.drew (Below.refl _ _))⟩)
    have HR := Lib.hid (HR.out.below (Below.drew (Below.refl _ _)))
    have HQ := Lib.hid (HQ.out.below (Below.drew (Below.refl _ _)))
    have HA := Lib.hid (HA.out.below (Below.drew (Below.refl _ _)))
    have HSR := Lib.hid (HSR.out.below (Below.drew (Below.refl _ _)))
    have hHeld : (fun W => Below w.heap.size w W ∧ Bk2 W GA x0 y0) _ := hHeld
    obtain ⟨wD4, hwD4⟩ : ∃ wD, w4.drew = wD := ⟨_, rfl⟩
    rw [hwD4] at hHeld HR HQ HA HSR ⊢
    clear hwD4
    (refine wpAnyH_take (i := 0) (v := ?_) rfl (by kernel_rfl) (by kernel_rfl) (by kernel_rfl) (fun _ _ _ h => h) (Or.inl ⟨rfl, ?_⟩) (by assumption) ?_; rotate_left; focus (intro W hSw; (try dsimp only at hSw); obtain ⟨hSb, hxA⟩ := hSw; obtain ⟨⟨iA0, iA1⟩, _, _⟩ := hxA; go_simp; try (with_reducible rfl))); (try simp only [Act.put, List.getElem_toArray, List.getElem_cons_succ, List.getElem_cons_zero, List.setIfInBounds_toArray, List.set_cons_zero, List.set_cons_succ])
    (refine wpAnyH_take (i := 1) (v := ?_) rfl (by kernel_rfl) (by kernel_rfl) (by kernel_rfl) (fun _ _ _ h => h) (Or.inl ⟨rfl, ?_⟩) (by assumption) ?_; rotate_left; focus (intro W hSw; (try dsimp only at hSw); obtain ⟨hSb, hxA⟩ := hSw; obtain ⟨⟨iA0, iA1⟩, _, _⟩ := hxA; go_simp; try (with_reducible rfl))); (try simp only [Act.put, List.getElem_toArray, List.getElem_cons_succ, List.getElem_cons_zero, List.setIfInBounds_toArray, List.set_cons_zero, List.set_cons_succ])
    (refine wpAnyH_take (i := 2) (v := ?_) rfl (by kernel_rfl) (by kernel_rfl) (by kernel_rfl) (fun _ _ _ h => h) (Or.inl ⟨rfl, ?_⟩) (by assumption) ?_; rotate_left; focus (intro W hSw; (try dsimp only at hSw); obtain ⟨hSb, hxA⟩ := hSw; obtain ⟨⟨iA0, iA1⟩, _, _⟩ := hxA; go_simp; try (with_reducible rfl))); (try simp only [Act.put, List.getElem_toArray, List.getElem_cons_succ, List.getElem_cons_zero, List.setIfInBounds_toArray, List.set_cons_zero, List.set_cons_succ])
    (refine wpAnyH_take (i := 3) (v := ?_) rfl (by kernel_rfl) (by kernel_rfl) (by kernel_rfl) (fun _ _ _ h => h) (Or.inl ⟨rfl, ?_⟩) (by assumption) ?_; rotate_left; focus (intro W hSw; (try dsimp only at hSw); obtain ⟨hSb, hxA⟩ := hSw; obtain ⟨⟨iA0, iA1⟩, _, _⟩ := hxA; go_simp; try (with_reducible rfl))); (try simp only [Act.put, List.getElem_toArray, List.getElem_cons_succ, List.getElem_cons_zero, List.setIfInBounds_toArray, List.set_cons_zero, List.set_cons_succ])
    (refine wpAnyH_take (i := 5) (v := ?_) rfl (by kernel_rfl) (by kernel_rfl) (by kernel_rfl) (fun _ _ _ h => h) (Or.inl ⟨rfl, ?_⟩) (by assumption) ?_; rotate_left; focus (intro W hSw; (try dsimp only at hSw); obtain ⟨hSb, hxA⟩ := hSw; obtain ⟨⟨iA0, iA1⟩, _, _⟩ := hxA; go_simp; try (with_reducible rfl))); (try simp only [Act.put, List.getElem_toArray, List.getElem_cons_succ, List.getElem_cons_zero, List.setIfInBounds_toArray, List.set_cons_zero, List.set_cons_succ])
    refine wpAnyH_ready (rs := [4]) (by kernel_rfl) (by simp) ?_; refine AllReadyH.cons rfl (fun K hK => ?_) AllReadyH.nil
    go_simp; (go_at_call 108; refine (l01DrawPoint_any _ a n cap 3 _ HSR.out (by omega) (by omega)).mono ?_; rintro en ywr4x0 ⟨u1, v1, rfl, -, -, -, -, hg, hs⟩)
    have HR := Lib.hid (HR.out.growsX hg (by intro hh; injection hh with hh; exact ne_R_s hh.symm))
    have HQ := Lib.hid (HQ.out.growsX hg (by intro hh; injection hh with hh; exact ne_Q_s hh.symm))
    have HA := Lib.hid (HA.out.growsX hg (by intro hh; injection hh with hh; exact ne_A_s hh.symm))
    have hBn := Below.grown hHeld.1 hg (Below.size hHeld.1) (fun k hk => by injection hk with hk; omega)
    have HSR := Lib.hid hs
    clear hg hs
    refine hK.out _ _ ⟨hBn, HA.out⟩ (fun hHeld2 => ?_); clear hBn; (clear hHeld; rename _ => hHeld; clear hK K; have hHeld : (fun W => Below w.heap.size w W ∧ Bk2 W GA x0 y0) _ := hHeld); (try simp only [Act.put, List.getElem_toArray, List.getElem_cons_succ, List.getElem_cons_zero, List.setIfInBounds_toArray, List.set_cons_zero, List.set_cons_succ])
    refine wpAnyH_ready (rs := [6]) (by kernel_rfl) (by simp) ?_; refine AllReadyH.cons rfl (fun K hK => ?_) AllReadyH.nil
    go_simp; (go_at_call 87; refine (l01Next_any _ a n cap 6 _ HSR.out).mono ?_; rintro en ywr4x1 ⟨k, rfl, -, -, hg, hs⟩)
    have HR := Lib.hid (HR.out.growsX hg (by intro hh; injection hh with hh; exact ne_R_s hh.symm))
    have HQ := Lib.hid (HQ.out.growsX hg (by intro hh; injection hh with hh; exact ne_Q_s hh.symm))
    have HA := Lib.hid (HA.out.growsX hg (by intro hh; injection hh with hh; exact ne_A_s hh.symm))
    have hBn := Below.grown hHeld.1 hg (Below.size hHeld.1) (fun k hk => by injection hk with hk; omega)
    have HSR := Lib.hid hs
    clear hg hs
    refine hK.out _ _ ⟨hBn, HA.out⟩ (fun hHeld2 => ?_); clear hBn; (clear hHeld; rename _ => hHeld; clear hK K; have hHeld : (fun W => Below w.heap.size w W ∧ Bk2 W GA x0 y0) _ := hHeld); (try simp only [Act.put, List.getElem_toArray, List.getElem_cons_succ, List.getElem_cons_zero, List.setIfInBounds_toArray, List.set_cons_zero, List.set_cons_succ])
    (refine wpAnyH_take (i := 7) (v := ?_) rfl (by kernel_rfl) (by kernel_rfl) (by kernel_rfl) (fun _ _ _ h => h) (Or.inl ⟨rfl, ?_⟩) (by assumption) ?_; rotate_left; focus (intro W hSw; (try dsimp only at hSw); obtain ⟨hSb, hxA⟩ := hSw; obtain ⟨⟨iA0, iA1⟩, _, _⟩ := hxA; go_simp; try (with_reducible rfl))); (try simp only [Act.put, List.getElem_toArray, List.getElem_cons_succ, List.getElem_cons_zero, List.setIfInBounds_toArray, List.set_cons_zero, List.set_cons_succ])
    refine wpAnyH_ready (rs := [8]) (by kernel_rfl) (by simp) ?_; refine AllReadyH.cons rfl (fun K hK => ?_) AllReadyH.nil
    go_simp; (go_at_call 105; refine (l01Plus_some _ _ _ _ _ _).mono ?_; rintro en ywr4x2 ⟨u2, v2, rfl, hb2⟩); have HR := Lib.hid (HR.out.below hb2); have HQ := Lib.hid (HQ.out.below hb2); have HA := Lib.hid (HA.out.below hb2); have HSR := Lib.hid (HSR.out.below hb2); refine hK.out _ _ ⟨below_after hb2 hHeld.1, HA.out⟩ (fun hHeld2 => ?_); clear hb2; (clear hHeld; rename _ => hHeld; clear hK K; have hHeld : (fun W => Below w.heap.size w W ∧ Bk2 W GA x0 y0) _ := hHeld); (try simp only [Act.put, List.getElem_toArray, List.getElem_cons_succ, List.getElem_cons_zero, List.setIfInBounds_toArray, List.set_cons_zero, List.set_cons_succ])
    refine wpAnyH_ready (rs := [9]) (by kernel_rfl) (by simp) ?_; refine AllReadyH.cons rfl (fun K hK => ?_) AllReadyH.nil
    go_simp; (go_at_call 88; refine (l01Bad_any _ a n cap _ _ _ HSR.out).mono ?_; rintro en ywr4x3 ⟨x1, y1, rfl, hg, hs⟩)
    have HR := Lib.hid (HR.out.growsX hg (by intro hh; injection hh with hh; exact ne_R_s hh.symm))
    have HQ := Lib.hid (HQ.out.growsX hg (by intro hh; injection hh with hh; exact ne_Q_s hh.symm))
    have HA := Lib.hid (HA.out.growsX hg (by intro hh; injection hh with hh; exact ne_A_s hh.symm))
    have hBn := Below.grown hHeld.1 hg (Below.size hHeld.1) (fun k hk => by injection hk with hk; omega)
    have HSR := Lib.hid hs
    clear hg hs
    refine hK.out _ _ ⟨hBn, HA.out⟩ (fun hHeld2 => ?_); clear hBn; (clear hHeld; rename _ => hHeld; clear hK K; have hHeld : (fun W => Below w.heap.size w W ∧ Bk2 W GA x0 y0) _ := hHeld); (try simp only [Act.put, List.getElem_toArray, List.getElem_cons_succ, List.getElem_cons_zero, List.setIfInBounds_toArray, List.set_cons_zero, List.set_cons_succ])
    refine wpAnyH_ready (rs := [10]) (by kernel_rfl) (by simp) ?_; refine AllReadyH.cons rfl (fun K hK => ?_) AllReadyH.nil
    clear HSR
    obtain ⟨⟨a0, a1⟩, ⟨f0, f1⟩, az⟩ := HR.out; go_simp; clear a0 f0 a1 f1 az
    have HQ := Lib.hid ((HQ.out.far ⟨GR, 0, none⟩ (.int .i64 x0) (by show GQ ≠ GR; exact ne_Q_R)).far ⟨GR, 1, none⟩ (.int .i64 y0) (by show GQ ≠ GR; exact ne_Q_R))
    have HA := Lib.hid ((HA.out.far ⟨GR, 0, none⟩ (.int .i64 x0) (by show GA ≠ GR; exact ne_A_R)).far ⟨GR, 1, none⟩ (.int .i64 y0) (by show GA ≠ GR; exact ne_A_R))
    have HR := Lib.hid ((HR.out.set0 x0).set1 y0)
    refine hK.out _ _ ⟨(Below.setCell (Below.setCell hHeld.1 (p := ⟨GR, 0, none⟩) le_R _) (p := ⟨GR, 1, none⟩) le_R _), HA.out⟩ (fun hHeld2 => ?_); (clear hHeld; rename _ => hHeld; clear hK K; have hHeld : (fun W => Below w.heap.size w W ∧ Bk2 W GA x0 y0) _ := hHeld); (try simp only [Act.put, List.getElem_toArray, List.getElem_cons_succ, List.getElem_cons_zero, List.setIfInBounds_toArray, List.set_cons_zero, List.set_cons_succ])
    obtain ⟨ywr4x4, hwx⟩ : ∃ wx, (ywr4x3.setCell ⟨GR, 0, none⟩ (.int .i64 x0)).setCell ⟨GR, 1, none⟩ (.int .i64 y0) = wx := ⟨_, rfl⟩; rw [hwx] at HR HQ HA hHeld ⊢; clear hwx
    refine wpAnyH_ready (rs := [11]) (by kernel_rfl) (by simp) ?_; refine AllReadyH.cons rfl (fun K hK => ?_) AllReadyH.nil
    obtain ⟨⟨a0, a1⟩, ⟨f0, f1⟩, az⟩ := HQ.out; go_simp; clear a0 f0 a1 f1 az
    have HR := Lib.hid ((HR.out.far ⟨GQ, 0, none⟩ (.int .i64 x1) (by show GR ≠ GQ; exact ne_R_Q)).far ⟨GQ, 1, none⟩ (.int .i64 y1) (by show GR ≠ GQ; exact ne_R_Q))
    have HA := Lib.hid ((HA.out.far ⟨GQ, 0, none⟩ (.int .i64 x1) (by show GA ≠ GQ; exact ne_A_Q)).far ⟨GQ, 1, none⟩ (.int .i64 y1) (by show GA ≠ GQ; exact ne_A_Q))
    have HQ := Lib.hid ((HQ.out.set0 x1).set1 y1)
    refine hK.out _ _ ⟨(Below.setCell (Below.setCell hHeld.1 (p := ⟨GQ, 0, none⟩) le_Q _) (p := ⟨GQ, 1, none⟩) le_Q _), HA.out⟩ (fun hHeld2 => ?_); (clear hHeld; rename _ => hHeld; clear hK K; have hHeld : (fun W => Below w.heap.size w W ∧ Bk2 W GA x0 y0) _ := hHeld); (try simp only [Act.put, List.getElem_toArray, List.getElem_cons_succ, List.getElem_cons_zero, List.setIfInBounds_toArray, List.set_cons_zero, List.set_cons_succ])
    obtain ⟨ywr4x5, hwx⟩ : ∃ wx, (ywr4x4.setCell ⟨GQ, 0, none⟩ (.int .i64 x1)).setCell ⟨GQ, 1, none⟩ (.int .i64 y1) = wx := ⟨_, rfl⟩; rw [hwx] at HR HQ HA hHeld ⊢; clear hwx
    refine wpAnyH_done (by kernel_rfl) ?_ _
    have HB := Lib.hid (hHeld.1)
    clear hHeld
    obtain ⟨⟨qR0, qR1⟩, ⟨fR0, fR1⟩, zR⟩ := HR.out
    obtain ⟨⟨qQ0, qQ1⟩, ⟨fQ0, fQ1⟩, zQ⟩ := HQ.out
    obtain ⟨⟨qA0, qA1⟩, ⟨fA0, fA1⟩, zA⟩ := HA.out
    go_wp2_with fail
    refine bodyPost_ret (v := .tuple #[.agg #[.int .i64 x0, .int .i64 y0], .agg #[.int .i64 x1, .int .i64 y1]]) (by simp (maxDischargeDepth := 8) [results, Try.results35, go_sem, *]) rfl ?_
    have hb := HB.out
    exact ⟨x0, y0, x1, y1, rfl, hb⟩
  · have hne : (v == 0) = false := by simp [hv0]
    go_wp2_with fail
    refine wp_region_held_drew (S := fun W => Below w.heap.size w W ∧ Bk2 W GA x0 y0) (by kernel_rfl) ?_ (fun hHeld => ?_); focus ((try dsimp only); exact ⟨Below.drew HB.out, HA.out.below (Below.drew (Below.refl _ _))⟩)
    have HR := Lib.hid (HR.out.below (Below.drew (Below.refl _ _)))
    have HQ := Lib.hid (HQ.out.below (Below.drew (Below.refl _ _)))
    have HA := Lib.hid (HA.out.below (Below.drew (Below.refl _ _)))
    have HSR := Lib.hid (HSR.out.below (Below.drew (Below.refl _ _)))
    have hHeld : (fun W => Below w.heap.size w W ∧ Bk2 W GA x0 y0) _ := hHeld
    obtain ⟨wD4, hwD4⟩ : ∃ wD, w4.drew = wD := ⟨_, rfl⟩
    rw [hwD4] at hHeld HR HQ HA HSR ⊢
    clear hwD4
    (refine wpAnyH_take (i := 0) (v := ?_) rfl (by kernel_rfl) (by kernel_rfl) (by kernel_rfl) (fun _ _ _ h => h) (Or.inl ⟨rfl, ?_⟩) (by assumption) ?_; rotate_left; focus (intro W hSw; (try dsimp only at hSw); obtain ⟨hSb, hxA⟩ := hSw; obtain ⟨⟨iA0, iA1⟩, _, _⟩ := hxA; go_simp; try (with_reducible rfl))); (try simp only [Act.put, List.getElem_toArray, List.getElem_cons_succ, List.getElem_cons_zero, List.setIfInBounds_toArray, List.set_cons_zero, List.set_cons_succ])
    (refine wpAnyH_take (i := 1) (v := ?_) rfl (by kernel_rfl) (by kernel_rfl) (by kernel_rfl) (fun _ _ _ h => h) (Or.inl ⟨rfl, ?_⟩) (by assumption) ?_; rotate_left; focus (intro W hSw; (try dsimp only at hSw); obtain ⟨hSb, hxA⟩ := hSw; obtain ⟨⟨iA0, iA1⟩, _, _⟩ := hxA; go_simp; try (with_reducible rfl))); (try simp only [Act.put, List.getElem_toArray, List.getElem_cons_succ, List.getElem_cons_zero, List.setIfInBounds_toArray, List.set_cons_zero, List.set_cons_succ])
    refine wpAnyH_ready (rs := [2]) (by kernel_rfl) (by simp) ?_; refine AllReadyH.cons rfl (fun K hK => ?_) AllReadyH.nil
    go_simp; (go_at_call 78; refine (l01Spoil_any _ a n cap _ HSR.out).mono ?_; rintro en ywr4x0 ⟨x1, y1, rfl, hg, hs⟩)
    have HR := Lib.hid (HR.out.growsX hg (by intro hh; injection hh with hh; exact ne_R_s hh.symm))
    have HQ := Lib.hid (HQ.out.growsX hg (by intro hh; injection hh with hh; exact ne_Q_s hh.symm))
    have HA := Lib.hid (HA.out.growsX hg (by intro hh; injection hh with hh; exact ne_A_s hh.symm))
    have hBn := Below.grown hHeld.1 hg (Below.size hHeld.1) (fun k hk => by injection hk with hk; omega)
    have HSR := Lib.hid hs
    clear hg hs
    refine hK.out _ _ ⟨hBn, HA.out⟩ (fun hHeld2 => ?_); clear hBn; (clear hHeld; rename _ => hHeld; clear hK K; have hHeld : (fun W => Below w.heap.size w W ∧ Bk2 W GA x0 y0) _ := hHeld); (try simp only [Act.put, List.getElem_toArray, List.getElem_cons_succ, List.getElem_cons_zero, List.setIfInBounds_toArray, List.set_cons_zero, List.set_cons_succ])
    refine wpAnyH_ready (rs := [3]) (by kernel_rfl) (by simp) ?_; refine AllReadyH.cons rfl (fun K hK => ?_) AllReadyH.nil
    clear HSR
    obtain ⟨⟨a0, a1⟩, ⟨f0, f1⟩, az⟩ := HR.out; go_simp; clear a0 f0 a1 f1 az
    have HQ := Lib.hid ((HQ.out.far ⟨GR, 0, none⟩ (.int .i64 x0) (by show GQ ≠ GR; exact ne_Q_R)).far ⟨GR, 1, none⟩ (.int .i64 y0) (by show GQ ≠ GR; exact ne_Q_R))
    have HA := Lib.hid ((HA.out.far ⟨GR, 0, none⟩ (.int .i64 x0) (by show GA ≠ GR; exact ne_A_R)).far ⟨GR, 1, none⟩ (.int .i64 y0) (by show GA ≠ GR; exact ne_A_R))
    have HR := Lib.hid ((HR.out.set0 x0).set1 y0)
    refine hK.out _ _ ⟨(Below.setCell (Below.setCell hHeld.1 (p := ⟨GR, 0, none⟩) le_R _) (p := ⟨GR, 1, none⟩) le_R _), HA.out⟩ (fun hHeld2 => ?_); (clear hHeld; rename _ => hHeld; clear hK K; have hHeld : (fun W => Below w.heap.size w W ∧ Bk2 W GA x0 y0) _ := hHeld); (try simp only [Act.put, List.getElem_toArray, List.getElem_cons_succ, List.getElem_cons_zero, List.setIfInBounds_toArray, List.set_cons_zero, List.set_cons_succ])
    obtain ⟨ywr4x1, hwx⟩ : ∃ wx, (ywr4x0.setCell ⟨GR, 0, none⟩ (.int .i64 x0)).setCell ⟨GR, 1, none⟩ (.int .i64 y0) = wx := ⟨_, rfl⟩; rw [hwx] at HR HQ HA hHeld ⊢; clear hwx
    refine wpAnyH_ready (rs := [4]) (by kernel_rfl) (by simp) ?_; refine AllReadyH.cons rfl (fun K hK => ?_) AllReadyH.nil
    obtain ⟨⟨a0, a1⟩, ⟨f0, f1⟩, az⟩ := HQ.out; go_simp; clear a0 f0 a1 f1 az
    have HR := Lib.hid ((HR.out.far ⟨GQ, 0, none⟩ (.int .i64 x1) (by show GR ≠ GQ; exact ne_R_Q)).far ⟨GQ, 1, none⟩ (.int .i64 y1) (by show GR ≠ GQ; exact ne_R_Q))
    have HA := Lib.hid ((HA.out.far ⟨GQ, 0, none⟩ (.int .i64 x1) (by show GA ≠ GQ; exact ne_A_Q)).far ⟨GQ, 1, none⟩ (.int .i64 y1) (by show GA ≠ GQ; exact ne_A_Q))
    have HQ := Lib.hid ((HQ.out.set0 x1).set1 y1)
    refine hK.out _ _ ⟨(Below.setCell (Below.setCell hHeld.1 (p := ⟨GQ, 0, none⟩) le_Q _) (p := ⟨GQ, 1, none⟩) le_Q _), HA.out⟩ (fun hHeld2 => ?_); (clear hHeld; rename _ => hHeld; clear hK K; have hHeld : (fun W => Below w.heap.size w W ∧ Bk2 W GA x0 y0) _ := hHeld); (try simp only [Act.put, List.getElem_toArray, List.getElem_cons_succ, List.getElem_cons_zero, List.setIfInBounds_toArray, List.set_cons_zero, List.set_cons_succ])
    obtain ⟨ywr4x2, hwx⟩ : ∃ wx, (ywr4x1.setCell ⟨GQ, 0, none⟩ (.int .i64 x1)).setCell ⟨GQ, 1, none⟩ (.int .i64 y1) = wx := ⟨_, rfl⟩; rw [hwx] at HR HQ HA hHeld ⊢; clear hwx
    refine wpAnyH_done (by kernel_rfl) ?_ _
    have HB := Lib.hid (hHeld.1)
    clear hHeld
    obtain ⟨⟨qR0, qR1⟩, ⟨fR0, fR1⟩, zR⟩ := HR.out
    obtain ⟨⟨qQ0, qQ1⟩, ⟨fQ0, fQ1⟩, zQ⟩ := HQ.out
    obtain ⟨⟨qA0, qA1⟩, ⟨fA0, fA1⟩, zA⟩ := HA.out
    go_wp2_with fail
    refine bodyPost_ret (v := .tuple #[.agg #[.int .i64 x0, .int .i64 y0], .agg #[.int .i64 x1, .int .i64 y1]]) (by simp (maxDischargeDepth := 8) [results, Try.results35, go_sem, *]) rfl ?_
    have hb := HB.out
    exact ⟨x0, y0, x1, y1, rfl, hb⟩
end Go.Proofs.Ytoenlpkphekbnaa
