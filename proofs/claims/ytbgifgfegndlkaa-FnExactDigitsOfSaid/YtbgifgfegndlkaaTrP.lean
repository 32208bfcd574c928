/-
  The order of a triple and numbers at places, in the program (own work).
-/
import Derived.Test.YtbgifgfegndlkaaTrO
namespace Go.Proofs.Ytbgifgfegndlkaa
open Go.ChangeShapes Go.WideShapes Go.ChangeAt Go.RowKit
set_option linter.unusedVariables false
set_option linter.unusedSimpArgs false
set_option maxRecDepth 100000

set_option maxHeartbeats 1600000 in
theorem stable_any (a b c : Int) (G D : Nat) (w : World) (hG : Bk3 w G a b c) (hD : Bk3 w D 0 1 2) (hne : G ≠ D) :
    Calls Try.prog 94 #[.slice (some ⟨D, 0, none⟩) 3 3, .int .i64 3, .func (.func 88) #[] #[.pointer (some ⟨G, 0, none⟩)]] w fun e w' => e = .returned (.tuple #[]) ∧ Bk3 w' D (od a b c).1 (od a b c).2.1 (od a b c).2.2 ∧ w.grownBy w' (some D) := by
  have HI := Lib.hid (insertion_any a b c G D w hG hD hne)
  clear hG hD hne
  go_enter Try.func94, Try.ntmps94
  go_wp2_with fail
  refine wp_loop_rounds 1 ?_
  rw [rounds_succ]
  go_wp2_with fail
  go_at_call 97
  refine HI.out.mono ?_
  rintro e w1 ⟨rfl, hd, hg⟩
  go_wp2_with fail
  refine wp_loop_rounds 1 ?_
  rw [rounds_succ]
  go_wp2_with fail
  go_end0
  exact ⟨rfl, hd, hg⟩
set_option maxHeartbeats 1600000 in
theorem sort_any (a b c : Int) (G D : Nat) (w : World) (hG : Bk3 w G a b c) (hD : Bk3 w D 0 1 2) (hne : G ≠ D) :
    Calls Try.prog 87 #[.slice (some ⟨D, 0, none⟩) 3 3, .func (.func 88) #[] #[.pointer (some ⟨G, 0, none⟩)]] w fun e w' => e = .returned (.tuple #[]) ∧ Bk3 w' D (od a b c).1 (od a b c).2.1 (od a b c).2.2 ∧ w.grownBy w' (some D) := by
  have HI := Lib.hid (stable_any a b c G D w hG hD hne)
  clear hG hD hne
  go_enter Try.func87, Try.ntmps87
  go_wp2_with fail
  go_at_call 94
  refine HI.out.mono ?_
  rintro e w1 ⟨rfl, hd, hg⟩
  go_wp2_with fail
  go_end0
  exact ⟨rfl, hd, hg⟩
set_option maxHeartbeats 1600000 in
theorem descendingOrder_any (a b c : Int) (w : World) : Calls Try.prog 58 #[.agg #[.int .i64 a, .int .i64 b, .int .i64 c]] w fun e w' => e = .returned (.agg #[.int .i64 (((od a b c).1 : Int)), .int .i64 (((od a b c).2.1 : Int)), .int .i64 (((od a b c).2.2 : Int))]) ∧ Below w.heap.size w w' := by
  have HSRT := Lib.hid (fun G D w h1 h2 h3 => sort_any a b c G D w h1 h2 h3)
  obtain ⟨p, hp⟩ : ∃ p : Int, ((od a b c).1 : Int) = p := ⟨_, rfl⟩
  obtain ⟨q, hq⟩ : ∃ q : Int, ((od a b c).2.1 : Int) = q := ⟨_, rfl⟩
  obtain ⟨r, hr⟩ : ∃ r : Int, ((od a b c).2.2 : Int) = r := ⟨_, rfl⟩
  rw [hp, hq, hr] at HSRT ⊢
  clear hp hq hr
  obtain ⟨GT, hG⟩ : ∃ G, w.heap.size = G := ⟨_, rfl⟩
  have HG := Lib.hid hG
  go_enter Try.func58, Try.ntmps58
  go_upto_region 1 with fail
  obtain ⟨w0, hw0⟩ : ∃ w0, w0 = ((w.alloc (.cells #[.int .i64 a, .int .i64 b, .int .i64 c] 22)).alloc (.cells #[.int .i64 0, .int .i64 0, .int .i64 0] 63)) := ⟨_, rfl⟩
  rw [← hw0]
  have HT : Hid (Bk3 w0 GT a b c) := by
    have h := (bk3_new w a b c 22).below (W' := ((w.alloc (.cells #[.int .i64 a, .int .i64 b, .int .i64 c] 22)).alloc (.cells #[.int .i64 0, .int .i64 0, .int .i64 0] 63))) (by (repeat' (first | (with_reducible exact Below.refl _ _) | (with_reducible refine Below.alloc ?_ ?_ _) | (with_reducible refine Below.setCell ?_ ?_ _) | (with_reducible refine Below.drew ?_) | (with_reducible refine below_drewN ?_ _) | (with_reducible assumption) | (with_reducible refine below_after (by with_reducible assumption) ?_) | go_size)))
    (try simp only [World.size_alloc] at h)
    rw [hG] at h
    rw [hw0]; exact h
  have HR : Hid (Bk3 w0 (GT + 1) 0 0 0) := by
    have h := (bk3_new (w.alloc (.cells #[.int .i64 a, .int .i64 b, .int .i64 c] 22)) 0 0 0 63).below (W' := ((w.alloc (.cells #[.int .i64 a, .int .i64 b, .int .i64 c] 22)).alloc (.cells #[.int .i64 0, .int .i64 0, .int .i64 0] 63))) (by (repeat' (first | (with_reducible exact Below.refl _ _) | (with_reducible refine Below.alloc ?_ ?_ _) | (with_reducible refine Below.setCell ?_ ?_ _) | (with_reducible refine Below.drew ?_) | (with_reducible refine below_drewN ?_ _) | (with_reducible assumption) | (with_reducible refine below_after (by with_reducible assumption) ?_) | go_size)))
    (try simp only [World.size_alloc] at h)
    rw [hG] at h
    rw [hw0]; exact h
  have HB : Hid (Below w.heap.size w w0) := by show Below w.heap.size w w0; rw [hw0]; (repeat' (first | (with_reducible exact Below.refl _ _) | (with_reducible refine Below.alloc ?_ ?_ _) | (with_reducible refine Below.setCell ?_ ?_ _) | (with_reducible refine Below.drew ?_) | (with_reducible refine below_drewN ?_ _) | (with_reducible assumption) | (with_reducible refine below_after (by with_reducible assumption) ?_) | go_size))
  clear hw0
  obtain ⟨GR, hGR⟩ : ∃ g, GT + 1 = g := ⟨_, rfl⟩
  rw [hGR] at HR ⊢
  have le_T : w.heap.size ≤ GT := by omega
  have le_R : w.heap.size ≤ GR := by omega
  have ne_R_T : GR ≠ GT := by omega
  have ne_T_R : GT ≠ GR := by omega
  clear hGR
  obtain ⟨⟨qT0, qT1, qT2⟩, ⟨fT0, fT1, fT2⟩, zT⟩ := HT.out
  obtain ⟨⟨qR0, qR1, qR2⟩, ⟨fR0, fR1, fR2⟩, zR⟩ := HR.out
  go_upto_region 2 with fail
  obtain ⟨GP, hGP⟩ : ∃ g, w0.heap.size = g := ⟨_, rfl⟩
  obtain ⟨w1, hw1⟩ : ∃ wx, wx = w0.alloc (.cells #[.int .i64 0, .int .i64 1, .int .i64 2] 63) := ⟨_, rfl⟩
  rw [← hw1, hGP]
  have HP : Hid (Bk3 w1 GP 0 1 2) := by rw [hw1, ← hGP]; exact bk3_new w0 0 1 2 _
  have le_P : w.heap.size ≤ GP := by rw [← hGP]; exact HB.out.size
  have ne_P_T : GP ≠ GT := by have := HT.out.2.2; omega
  have ne_T_P : GT ≠ GP := Ne.symm ne_P_T
  have ne_P_R : GP ≠ GR := by have := HR.out.2.2; omega
  have ne_R_P : GR ≠ GP := Ne.symm ne_P_R
  clear qT0 fT0 qT1 fT1 qT2 fT2 zT qR0 fR0 qR1 fR1 qR2 fR2 zR
  have HT := Lib.hid (HT.out.below ((Below.refl _ _).alloc (Nat.le_refl _) (.cells #[.int .i64 0, .int .i64 1, .int .i64 2] 63)))
  have HR := Lib.hid (HR.out.below ((Below.refl _ _).alloc (Nat.le_refl _) (.cells #[.int .i64 0, .int .i64 1, .int .i64 2] 63)))
  have HB := Lib.hid (Below.alloc HB.out HB.out.size (.cells #[.int .i64 0, .int .i64 1, .int .i64 2] 63))
  rw [← hw1] at HT HR HB
  clear hw1 hGP
  obtain ⟨⟨qT0, qT1, qT2⟩, ⟨fT0, fT1, fT2⟩, zT⟩ := HT.out
  obtain ⟨⟨qR0, qR1, qR2⟩, ⟨fR0, fR1, fR2⟩, zR⟩ := HR.out
  obtain ⟨⟨qP0, qP1, qP2⟩, ⟨fP0, fP1, fP2⟩, zP⟩ := HP.out
  go_wp2_with fail
  go_at_call 87
  refine (HSRT.out GT GP _ HT.out HP.out ne_T_P).mono ?_
  rintro e w9 ⟨rfl, hp, hg⟩
  clear qT0 fT0 qT1 fT1 qT2 fT2 zT qR0 fR0 qR1 fR1 qR2 fR2 zR qP0 fP0 qP1 fP1 qP2 fP2 zP
  have HT := Lib.hid (HT.out.grown hg (fun e => ne_T_P (Option.some.inj e).symm))
  have HR := Lib.hid (HR.out.grown hg (fun e => ne_R_P (Option.some.inj e).symm))
  have HB := Lib.hid (Below.grown HB.out hg HB.out.size (fun k hk => by have := Option.some.inj hk; omega))
  have HP := Lib.hid hp
  clear hp hg
  obtain ⟨⟨qT0, qT1, qT2⟩, ⟨fT0, fT1, fT2⟩, zT⟩ := HT.out
  obtain ⟨⟨qR0, qR1, qR2⟩, ⟨fR0, fR1, fR2⟩, zR⟩ := HR.out
  obtain ⟨⟨qP0, qP1, qP2⟩, ⟨fP0, fP1, fP2⟩, zP⟩ := HP.out
  go_wp2_with fail
  refine bodyPost_ret (v := .agg #[.int .i64 p, .int .i64 q, .int .i64 r]) (by simp (maxDischargeDepth := 8) [results, Try.results58, go_sem, *]) rfl ?_
  have hb := HB.out
  exact ⟨rfl, by (repeat' (first | (with_reducible exact Below.refl _ _) | (with_reducible refine Below.alloc ?_ ?_ _) | (with_reducible refine Below.setCell ?_ ?_ _) | (with_reducible refine Below.drew ?_) | (with_reducible refine below_drewN ?_ _) | (with_reducible assumption) | (with_reducible refine below_after (by with_reducible assumption) ?_) | go_size))⟩
set_option maxHeartbeats 1600000 in
theorem inOrder_any (x y z : Int) (p q r : Nat) (w : World) (hp : p < 3) (hq : q < 3) (hr : r < 3) : Calls Try.prog 57 #[.agg #[.int .i64 x, .int .i64 y, .int .i64 z], .agg #[.int .i64 ((p : Int)), .int .i64 ((q : Int)), .int .i64 ((r : Int))]] w fun e w' => e = .returned (.agg #[.int .i64 (pk p x y z), .int .i64 (pk q x y z), .int .i64 (pk r x y z)]) ∧ Below w.heap.size w w' := by
  obtain ⟨X, hX⟩ : ∃ X, pk p x y z = X := ⟨_, rfl⟩
  obtain ⟨Y, hY⟩ : ∃ Y, pk q x y z = Y := ⟨_, rfl⟩
  obtain ⟨Z, hZ⟩ : ∃ Z, pk r x y z = Z := ⟨_, rfl⟩
  rw [hX, hY, hZ]
  have HAT : Hid (∀ W G, Bk3 W G x y z → W.cell? ⟨G, p, none⟩ = some (.int .i64 X) ∧ W.cell? ⟨G, q, none⟩ = some (.int .i64 Y) ∧ W.cell? ⟨G, r, none⟩ = some (.int .i64 Z)) := fun W G h => ⟨by rw [← hX]; exact h.at hp, by rw [← hY]; exact h.at hq, by rw [← hZ]; exact h.at hr⟩
  clear hX hY hZ
  have p0 : (0 : Int) ≤ (p : Int) := by omega
  have p1 : (p : Int) < 3 := by omega
  have q0 : (0 : Int) ≤ (q : Int) := by omega
  have q1 : (q : Int) < 3 := by omega
  have r0 : (0 : Int) ≤ (r : Int) := by omega
  have r1 : (r : Int) < 3 := by omega
  obtain ⟨GL, hG⟩ : ∃ G, w.heap.size = G := ⟨_, rfl⟩
  have HG := Lib.hid hG
  go_enter Try.func57, Try.ntmps57
  go_upto_region 1 with fail
  obtain ⟨w0, hw0⟩ : ∃ w0, w0 = (((w.alloc (.cells #[.int .i64 x, .int .i64 y, .int .i64 z] 22)).alloc (.cells #[.int .i64 ((p : Int)), .int .i64 ((q : Int)), .int .i64 ((r : Int))] 63)).alloc (.cells #[.int .i64 0, .int .i64 0, .int .i64 0] 22)) := ⟨_, rfl⟩
  rw [← hw0]
  have HL : Hid (Bk3 w0 GL x y z) := by
    have h := (bk3_new w x y z 22).below (W' := (((w.alloc (.cells #[.int .i64 x, .int .i64 y, .int .i64 z] 22)).alloc (.cells #[.int .i64 ((p : Int)), .int .i64 ((q : Int)), .int .i64 ((r : Int))] 63)).alloc (.cells #[.int .i64 0, .int .i64 0, .int .i64 0] 22))) (by (repeat' (first | (with_reducible exact Below.refl _ _) | (with_reducible refine Below.alloc ?_ ?_ _) | (with_reducible refine Below.setCell ?_ ?_ _) | (with_reducible refine Below.drew ?_) | (with_reducible refine below_drewN ?_ _) | (with_reducible assumption) | (with_reducible refine below_after (by with_reducible assumption) ?_) | go_size)))
    (try simp only [World.size_alloc] at h)
    rw [hG] at h
    rw [hw0]; exact h
  have HP : Hid (Bk3 w0 (GL + 1) ((p : Int)) ((q : Int)) ((r : Int))) := by
    have h := (bk3_new (w.alloc (.cells #[.int .i64 x, .int .i64 y, .int .i64 z] 22)) ((p : Int)) ((q : Int)) ((r : Int)) 63).below (W' := (((w.alloc (.cells #[.int .i64 x, .int .i64 y, .int .i64 z] 22)).alloc (.cells #[.int .i64 ((p : Int)), .int .i64 ((q : Int)), .int .i64 ((r : Int))] 63)).alloc (.cells #[.int .i64 0, .int .i64 0, .int .i64 0] 22))) (by (repeat' (first | (with_reducible exact Below.refl _ _) | (with_reducible refine Below.alloc ?_ ?_ _) | (with_reducible refine Below.setCell ?_ ?_ _) | (with_reducible refine Below.drew ?_) | (with_reducible refine below_drewN ?_ _) | (with_reducible assumption) | (with_reducible refine below_after (by with_reducible assumption) ?_) | go_size)))
    (try simp only [World.size_alloc] at h)
    rw [hG] at h
    rw [hw0]; exact h
  have HR : Hid (Bk3 w0 (GL + 1 + 1) 0 0 0) := by
    have h := (bk3_new ((w.alloc (.cells #[.int .i64 x, .int .i64 y, .int .i64 z] 22)).alloc (.cells #[.int .i64 ((p : Int)), .int .i64 ((q : Int)), .int .i64 ((r : Int))] 63)) 0 0 0 22).below (W' := (((w.alloc (.cells #[.int .i64 x, .int .i64 y, .int .i64 z] 22)).alloc (.cells #[.int .i64 ((p : Int)), .int .i64 ((q : Int)), .int .i64 ((r : Int))] 63)).alloc (.cells #[.int .i64 0, .int .i64 0, .int .i64 0] 22))) (by (repeat' (first | (with_reducible exact Below.refl _ _) | (with_reducible refine Below.alloc ?_ ?_ _) | (with_reducible refine Below.setCell ?_ ?_ _) | (with_reducible refine Below.drew ?_) | (with_reducible refine below_drewN ?_ _) | (with_reducible assumption) | (with_reducible refine below_after (by with_reducible assumption) ?_) | go_size)))
    (try simp only [World.size_alloc] at h)
    rw [hG] at h
    rw [hw0]; exact h
  have HB : Hid (Below w.heap.size w w0) := by show Below w.heap.size w w0; rw [hw0]; (repeat' (first | (with_reducible exact Below.refl _ _) | (with_reducible refine Below.alloc ?_ ?_ _) | (with_reducible refine Below.setCell ?_ ?_ _) | (with_reducible refine Below.drew ?_) | (with_reducible refine below_drewN ?_ _) | (with_reducible assumption) | (with_reducible refine below_after (by with_reducible assumption) ?_) | go_size))
  clear hw0
  obtain ⟨GR, hGR⟩ : ∃ g, GL + 1 + 1 = g := ⟨_, rfl⟩
  rw [hGR] at HR ⊢
  obtain ⟨GP, hGP⟩ : ∃ g, GL + 1 = g := ⟨_, rfl⟩
  rw [hGP] at HP ⊢
  have le_L : w.heap.size ≤ GL := by omega
  have le_P : w.heap.size ≤ GP := by omega
  have ne_P_L : GP ≠ GL := by omega
  have ne_L_P : GL ≠ GP := by omega
  have le_R : w.heap.size ≤ GR := by omega
  have ne_R_L : GR ≠ GL := by omega
  have ne_L_R : GL ≠ GR := by omega
  have ne_R_P : GR ≠ GP := by omega
  have ne_P_R : GP ≠ GR := by omega
  clear hGP hGR
  obtain ⟨⟨qL0, qL1, qL2⟩, ⟨fL0, fL1, fL2⟩, zL⟩ := HL.out
  obtain ⟨⟨qP0, qP1, qP2⟩, ⟨fP0, fP1, fP2⟩, zP⟩ := HP.out
  obtain ⟨⟨qR0, qR1, qR2⟩, ⟨fR0, fR1, fR2⟩, zR⟩ := HR.out
  obtain ⟨jp, jq, jr⟩ := HAT.out _ _ HL.out
  go_upto_region 1 with fail
  go_still_tail 13, (by kernel_rfl)
  change wpList _ _ _ _ _ (World.drew _)
  obtain ⟨w1, hw1⟩ : ∃ wx, w0.drew = wx := ⟨_, rfl⟩
  rw [hw1]
  clear qL0 fL0 qL1 fL1 qL2 fL2 zL qP0 fP0 qP1 fP1 qP2 fP2 zP qR0 fR0 qR1 fR1 qR2 fR2 zR
  clear jp jq jr
  have HL := Lib.hid (HL.out.below (Below.drew (Below.refl _ _)))
  have HP := Lib.hid (HP.out.below (Below.drew (Below.refl _ _)))
  have HR := Lib.hid (HR.out.below (Below.drew (Below.refl _ _)))
  have HB := Lib.hid (Below.drew HB.out)
  rw [hw1] at HL HP HR HB
  clear hw1
  obtain ⟨⟨qL0, qL1, qL2⟩, ⟨fL0, fL1, fL2⟩, zL⟩ := HL.out
  obtain ⟨⟨qP0, qP1, qP2⟩, ⟨fP0, fP1, fP2⟩, zP⟩ := HP.out
  obtain ⟨⟨qR0, qR1, qR2⟩, ⟨fR0, fR1, fR2⟩, zR⟩ := HR.out
  go_wp2_with fail
  refine bodyPost_ret (v := .agg #[.int .i64 X, .int .i64 Y, .int .i64 Z]) (by simp (maxDischargeDepth := 8) [results, Try.results57, go_sem, *]) rfl ?_
  have hb := HB.out
  exact ⟨rfl, by (repeat' (first | (with_reducible exact Below.refl _ _) | (with_reducible refine Below.alloc ?_ ?_ _) | (with_reducible refine Below.setCell ?_ ?_ _) | (with_reducible refine Below.drew ?_) | (with_reducible refine below_drewN ?_ _) | (with_reducible assumption) | (with_reducible refine below_after (by with_reducible assumption) ?_) | go_size))⟩
end Go.Proofs.Ytbgifgfegndlkaa
