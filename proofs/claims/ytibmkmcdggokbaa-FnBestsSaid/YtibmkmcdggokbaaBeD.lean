/-
  The draws of ratios (FnBests) (own work).
-/
import Derived.Test.YtibmkmcdggokbaaFpB
import Derived.BigRegion
import Derived.Lib.MinMax
import Derived.Deep.Cut
namespace Go.Proofs.Ytibmkmcdggokbaa
open Go.ChangeShapes Go.WideShapes Go.ChangeAt Go.RowKit
set_option linter.unusedVariables false
set_option linter.unusedSimpArgs false
set_option maxRecDepth 100000

theorem run_maxD (P : Program) (w : World) (ts : Array TypeId) (t : TypeId) (x y m : Int) (h : max x y = m) : (Builtin.max_ ts t #[.int .i64 x, .int .i64 y]).run P w = .ok (.int .i64 m) w := by
  rw [← h]
  simp [Builtin.max_, Builtin.max2]
  split <;> omega
set_option maxHeartbeats 1600000 in
theorem l01Near_any (s : Nat) (a : Option Addr) (n cap : Nat) (m : Int) (w : World) (h : Sr w s a n cap) (h1 : 0 ≤ m) (h2 : m ≤ 1000000) :
    Calls Try.prog 35 #[.pointer (some ⟨s, 0, none⟩), .int .i64 m] w fun e w' => ∃ v : Int, (-4611686018427387904 ≤ v ∧ v ≤ 4611686018427387904) ∧ e = .returned (.int .i64 v) ∧ Drew s a n cap w w' := by
  have HS := Lib.hid h
  clear h
  have hw : IntKind.i64.wrap (m + 1) = m + 1 := by rw [IntKind.wrap_i64]; omega
  have hw2 : wrap64 (m + 1) = m + 1 := IntWalk.wrap64_in _ ⟨by omega, by omega⟩
  obtain ⟨M, hM⟩ : ∃ M, m + 1 = M := ⟨_, rfl⟩
  rw [hM] at hw hw2
  go_enter Try.func35, Try.ntmps35
  go_wp2_with fail
  go_at_call 29
  refine (l01Next_any s a n cap 14 _ HS.out).mono ?_
  rintro e w1 ⟨v, rfl, -, -, hg1, hs1⟩
  have hlt := hs1.lt
  by_cases hv0 : v = 0
  · subst hv0
    go_wp2_with fail
    go_at_call 34
    refine (l01Pick_any s w1.heap.size 4 a n cap [-1, M, 1099511627776, -4611686018427387904] _ (sr_alloc hs1 _) (by simp) (by omega) (by simp) (by simp) (fun j hj => ?_)).mono ?_
    · exact row_new w1 [-1, M, 1099511627776, -4611686018427387904] _ j hj
    rintro e w2 ⟨v, hv, rfl, hg2, hs2⟩
    have hvb : -4611686018427387904 ≤ v ∧ v ≤ 4611686018427387904 := by simp at hv; omega
    have HD := Lib.hid (show Drew s a n cap w w2 from ⟨(hg1.trans (World.grownBy_alloc w1 _ _)).trans hg2, hs2⟩)
    clear hv hg1 hg2 hs1 hs2
    go_wp2
    go_ret
    exact ⟨v, hvb, rfl, HD.out⟩
  · have hne : (v == 0) = false := by simp [hv0]
    go_wp2_with fail
    go_at_call 29
    refine (l01Next_any s a n cap M _ hs1).mono ?_
    rintro e w2 ⟨u, rfl, -, hu, hg2, hs2⟩
    have hub := hu (by omega)
    have HD := Lib.hid (show Drew s a n cap w w2 from ⟨hg1.trans hg2, hs2⟩)
    clear hu hg1 hg2 hs1 hs2 hne
    go_wp2
    go_ret
    exact ⟨u, by omega, rfl, HD.out⟩
def I64 (x : Int) : Prop := -9223372036854775808 ≤ x ∧ x ≤ 9223372036854775807
theorem wrap_I64 (x : Int) : I64 (wrap64 x) := by unfold I64 wrap64; omega
set_option maxHeartbeats 4000000 in
theorem l10Draw_any (sG : Nat) (a : Option Addr) (n cap : Nat) (w : World) (h : Sr w sG a n cap) :
    Calls Try.prog 27 #[.pointer (some ⟨sG, 0, none⟩)] w fun e w' => ∃ p q : Int, (I64 p ∧ I64 q) ∧ e = .returned (.tuple #[.int .i64 p, .int .i64 q]) ∧ Drew sG a n cap w w' := by
  have HSR := Lib.hid h
  have HG : Hid (w.grownBy w (some sG)) := World.grownBy.refl w _
  clear h
  go_enter Try.func27, Try.ntmps27
  go_wp2_with fail
  go_at_call 29
  refine (l01Next_any _ a n cap 12 _ HSR.out).mono ?_
  rintro e w1 ⟨v0, rfl, -, hv0, hg, hs⟩
  have HG := Lib.hid (HG.out.trans hg)
  have HSR := Lib.hid hs
  clear hg hs
  have hv0b := hv0 (by omega)
  obtain ⟨V0, hV0⟩ : ∃ x, 1 + v0 = x := ⟨_, rfl⟩
  have hwV0 : IntKind.i64.wrap (1 + v0) = V0 := by rw [IntKind.wrap_i64]; omega
  have hxV0 : wrap64 (1 + v0) = V0 := by rw [IntWalk.wrap64_in _ ⟨by omega, by omega⟩]; exact hV0
  have hbV0 : 1 ≤ V0 ∧ V0 ≤ 12 := by omega
  clear hv0 hv0b hV0
  go_wp2_with fail
  go_at_call 29
  refine (l01Next_any _ a n cap 100 _ HSR.out).mono ?_
  rintro e w2 ⟨v1, rfl, -, hv1, hg, hs⟩
  have HG := Lib.hid (HG.out.trans hg)
  have HSR := Lib.hid hs
  clear hg hs
  have hv1b := hv1 (by omega)
  obtain ⟨V1, hV1⟩ : ∃ x, 1 + v1 = x := ⟨_, rfl⟩
  have hwV1 : IntKind.i64.wrap (1 + v1) = V1 := by rw [IntKind.wrap_i64]; omega
  have hxV1 : wrap64 (1 + v1) = V1 := by rw [IntWalk.wrap64_in _ ⟨by omega, by omega⟩]; exact hV1
  have hbV1 : 1 ≤ V1 ∧ V1 ≤ 100 := by omega
  clear hv1 hv1b hV1
  go_wp2_with fail
  go_at_call 35
  refine (l01Near_any _ a n cap 1000000 _ HSR.out (by omega) (by omega)).mono ?_
  rintro e w3 ⟨v2, hv2, rfl, hg, hs⟩
  have HG := Lib.hid (HG.out.trans hg)
  have HSR := Lib.hid hs
  clear hg hs
  go_wp2_with fail
  go_at_call 34
  have hltS := HSR.out.lt
  refine (l01Pick_any _ w3.heap.size 3 a n cap [V0, V1, v2] _ (sr_alloc HSR.out _) (by simp) (by omega) (by simp) (by simp) (fun j hj => ?_)).mono ?_
  · exact row_new w3 [V0, V1, v2] _ j hj
  rintro e w4 ⟨q, hq, rfl, hg, hs⟩
  have HG := Lib.hid ((grown_new HG.out _).trans hg)
  have HSR := Lib.hid hs
  clear hg hs hltS
  have hqb : -4611686018427387904 ≤ q ∧ q ≤ 4611686018427387904 := by simp at hq; omega
  clear hq hv2 hbV0 hbV1 hwV0 hxV0 hwV1 hxV1
  obtain ⟨M, hM⟩ : ∃ x, max q 1 = x := ⟨_, rfl⟩
  have hMb : 1 ≤ M ∧ M ≤ 4611686018427387904 := by omega
  have hmx := fun P w ts t => run_maxD P w ts t q 1 M hM
  clear hM
  go_wp2_with fail
  go_at_call 29
  refine (l01Next_any _ a n cap _ _ HSR.out).mono ?_
  rintro e w5 ⟨v3, rfl, -, -, hg, hs⟩
  have HG := Lib.hid (HG.out.trans hg)
  have HSR := Lib.hid hs
  clear hg hs
  obtain ⟨p, hp⟩ : ∃ x, wrap64 (v3 - q) = x := ⟨_, rfl⟩
  have hpI : I64 p := by rw [← hp]; exact wrap_I64 _
  have hqI : I64 q := by unfold I64; omega
  clear hmx
  go_wp2_with fail
  go_at_call 29
  refine (l01Next_any _ a n cap 30 _ HSR.out).mono ?_
  rintro e w6 ⟨z, rfl, -, -, hg, hs⟩
  have HG := Lib.hid (HG.out.trans hg)
  have HSR := Lib.hid hs
  clear hg hs
  by_cases hz0 : z = 0
  · skip
    subst hz0
    go_wp2_with fail
    go_at_call 34
    have hltS := HSR.out.lt
    refine (l01Pick_any _ w6.heap.size 3 a n cap [0, -3, 1000001] _ (sr_alloc HSR.out _) (by simp) (by omega) (by simp) (by simp) (fun j hj => ?_)).mono ?_
    · exact row_new w6 [0, -3, 1000001] _ j hj
    rintro e w7 ⟨q2, hq2, rfl, hg, hs⟩
    have HG := Lib.hid ((grown_new HG.out _).trans hg)
    have HSR := Lib.hid hs
    clear hg hs hltS
    have hq2b : I64 q2 := by unfold I64; simp at hq2; omega
    clear hq2
    go_wp2_with fail
    refine bodyPost_ret (v := .tuple #[.int .i64 p, .int .i64 q2]) (by simp (maxDischargeDepth := 8) [results, Try.results27, go_sem, *]) rfl ?_
    exact ⟨p, q2, ⟨hpI, hq2b⟩, rfl, HG.out, HSR.out⟩
  · by_cases hz1 : z = 1
    · skip
      subst hz1
      go_wp2_with fail
      go_at_call 34
      have hltS := HSR.out.lt
      refine (l01Pick_any _ w6.heap.size 3 a n cap [1000000, -1000000, 1000001] _ (sr_alloc HSR.out _) (by simp) (by omega) (by simp) (by simp) (fun j hj => ?_)).mono ?_
      · exact row_new w6 [1000000, -1000000, 1000001] _ j hj
      rintro e w7 ⟨p2, hp2, rfl, hg, hs⟩
      have HG := Lib.hid ((grown_new HG.out _).trans hg)
      have HSR := Lib.hid hs
      clear hg hs hltS
      have hp2b : I64 p2 := by unfold I64; simp at hp2; omega
      clear hp2
      go_wp2_with fail
      refine bodyPost_ret (v := .tuple #[.int .i64 p2, .int .i64 q]) (by simp (maxDischargeDepth := 8) [results, Try.results27, go_sem, *]) rfl ?_
      exact ⟨p2, q, ⟨hp2b, hqI⟩, rfl, HG.out, HSR.out⟩
    · skip
      have n0 : (z == 0) = false := by simp [hz0]
      have n1 : (z == 1) = false := by simp [hz1]
      go_wp2_with fail
      refine bodyPost_ret (v := .tuple #[.int .i64 p, .int .i64 q]) (by simp (maxDischargeDepth := 8) [results, Try.results27, go_sem, *]) rfl ?_
      exact ⟨p, q, ⟨hpI, hqI⟩, rfl, HG.out, HSR.out⟩
set_option maxHeartbeats 4000000 in
theorem l10With_any (m : Int) (a : Option Addr) (n cap : Nat) (w : World) (hn : n ≤ 9223372036854775807) (hb : Byt w w.heap.size a n) (hm1 : 0 ≤ m) (hm2 : m ≤ 1000000) :
    Calls Try.prog 21 #[.slice a n cap, .int .i64 m] w fun e w' => ∃ p q k : Int, (I64 p ∧ I64 q ∧ I64 k) ∧ e = .returned (.tuple #[.int .i64 p, .int .i64 q, .int .i64 k]) ∧ Below w.heap.size w w' := by
  have CF : Hid (∀ W, Below w.heap.size w W → Calls Try.prog 26 #[.slice a n cap] W fun e w' => ∃ s, e = .returned (.pointer (some ⟨s, 0, none⟩)) ∧ Sr w' s a n cap ∧ (w.heap.size ≤ s ∧ W.heap.size ≤ s) ∧ Below W.heap.size W w') := fun W hW => (l01From_any a n cap W hn (hb.over hW)).mono (by rintro e w' ⟨rfl, h1, h2⟩; exact ⟨_, rfl, h2, ⟨hW.size, Nat.le_refl _⟩, h1⟩)
  clear hb
  have HB : Hid (Below w.heap.size w w) := Below.refl _ _
  go_enter Try.func21, Try.ntmps21

  go_wp2_with fail
  go_at_call 26
  refine (CF.out _ HB.out).mono ?_
  rintro e w1 ⟨sG, rfl, hs, hsl, hb⟩
  have HB := Lib.hid (below_after hb HB.out)
  clear hb
  have HSR := Lib.hid hs
  have le_s : w.heap.size ≤ sG := by have := hsl; omega
  clear hs
  go_wp2_with fail
  go_at_call 27
  refine (l10Draw_any _ a n cap _ HSR.out).mono ?_
  rintro e w2 ⟨p, q, hpq, rfl, hg, hs⟩
  have HB := Lib.hid (Below.grown HB.out hg HB.out.size (fun k hk => by injection hk with hk; omega))
  have HSR := Lib.hid hs
  clear hg hs
  go_wp2_with fail
  go_at_call 29
  refine (l01Next_any _ a n cap 12 _ HSR.out).mono ?_
  rintro e w3 ⟨v0, rfl, -, hv0, hg, hs⟩
  have HB := Lib.hid (Below.grown HB.out hg HB.out.size (fun k hk => by injection hk with hk; omega))
  have HSR := Lib.hid hs
  clear hg hs
  have hv0b := hv0 (by omega)
  obtain ⟨V0, hV0⟩ : ∃ x, 1 + v0 = x := ⟨_, rfl⟩
  have hwV0 : IntKind.i64.wrap (1 + v0) = V0 := by rw [IntKind.wrap_i64]; omega
  have hxV0 : wrap64 (1 + v0) = V0 := by rw [IntWalk.wrap64_in _ ⟨by omega, by omega⟩]; exact hV0
  have hbV0 : 1 ≤ V0 ∧ V0 ≤ 12 := by omega
  clear hv0 hv0b hV0
  go_wp2_with fail
  go_at_call 29
  refine (l01Next_any _ a n cap 60 _ HSR.out).mono ?_
  rintro e w4 ⟨v1, rfl, -, hv1, hg, hs⟩
  have HB := Lib.hid (Below.grown HB.out hg HB.out.size (fun k hk => by injection hk with hk; omega))
  have HSR := Lib.hid hs
  clear hg hs
  have hv1b := hv1 (by omega)
  obtain ⟨V1, hV1⟩ : ∃ x, 1 + v1 = x := ⟨_, rfl⟩
  have hwV1 : IntKind.i64.wrap (1 + v1) = V1 := by rw [IntKind.wrap_i64]; omega
  have hxV1 : wrap64 (1 + v1) = V1 := by rw [IntWalk.wrap64_in _ ⟨by omega, by omega⟩]; exact hV1
  have hbV1 : 1 ≤ V1 ∧ V1 ≤ 60 := by omega
  clear hv1 hv1b hV1
  go_wp2_with fail
  go_at_call 35
  refine (l01Near_any _ a n cap m _ HSR.out hm1 hm2).mono ?_
  rintro e w5 ⟨v2, hv2, rfl, hg, hs⟩
  have HB := Lib.hid (Below.grown HB.out hg HB.out.size (fun k hk => by injection hk with hk; omega))
  have HSR := Lib.hid hs
  clear hg hs
  go_wp2_with fail
  go_at_call 34
  have hltS := HSR.out.lt
  refine (l01Pick_any _ w5.heap.size 3 a n cap [V0, V1, v2] _ (sr_alloc HSR.out _) (by simp) (by omega) (by simp) (by simp) (fun j hj => ?_)).mono ?_
  · exact row_new w5 [V0, V1, v2] _ j hj
  rintro e w6 ⟨k, hk, rfl, hg, hs⟩
  have HB := Lib.hid (Below.grown (Below.alloc HB.out HB.out.size _) hg (Below.alloc HB.out HB.out.size _).size (fun k hk => by injection hk with hk; omega))
  have HSR := Lib.hid hs
  clear hg hs hltS
  have hkb : I64 k := by unfold I64; simp at hk; omega
  clear hk
  clear HSR
  go_wp2_with fail
  refine bodyPost_ret (v := .tuple #[.int .i64 p, .int .i64 q, .int .i64 k]) (by simp (maxDischargeDepth := 8) [results, Try.results21, go_sem, *]) rfl ?_
  exact ⟨p, q, k, ⟨hpq.1, hpq.2, hkb⟩, rfl, HB.out⟩
set_option maxHeartbeats 4000000 in
theorem DrawBestOfSecond_any (a : Option Addr) (n cap : Nat) (w : World) (hn : n ≤ 9223372036854775807) (hb : Byt w w.heap.size a n) :
    Calls Try.prog 5 #[.slice a n cap] w fun e w' => ∃ p q k : Int, (I64 p ∧ I64 q ∧ I64 k) ∧ e = .returned (.tuple #[.int .i64 p, .int .i64 q, .int .i64 k]) ∧ Below w.heap.size w w' := by
  have HC := Lib.hid (l10With_any 2000 a n cap w hn hb (by omega) (by omega))
  go_enter Try.func5, Try.ntmps5
  go_wp2_with fail
  go_at_call 21
  refine (HC.out).mono ?_
  rintro e w1 ⟨p, q, k, hpq, rfl, hb1⟩
  go_wp2_with fail
  refine bodyPost_ret (v := .tuple #[.int .i64 p, .int .i64 q, .int .i64 k]) (by simp (maxDischargeDepth := 8) [results, Try.results5, go_sem, *]) rfl ?_
  exact ⟨p, q, k, hpq, rfl, hb1⟩
set_option maxHeartbeats 4000000 in
theorem DrawBestOfFirst_any (a : Option Addr) (n cap : Nat) (w : World) (hn : n ≤ 9223372036854775807) (hb : Byt w w.heap.size a n) :
    Calls Try.prog 9 #[.slice a n cap] w fun e w' => ∃ p q k : Int, (I64 p ∧ I64 q ∧ I64 k) ∧ e = .returned (.tuple #[.int .i64 p, .int .i64 q, .int .i64 k]) ∧ Below w.heap.size w w' := by
  have HC := Lib.hid (l10With_any 2000 a n cap w hn hb (by omega) (by omega))
  go_enter Try.func9, Try.ntmps9
  go_wp2_with fail
  go_at_call 21
  refine (HC.out).mono ?_
  rintro e w1 ⟨p, q, k, hpq, rfl, hb1⟩
  go_wp2_with fail
  refine bodyPost_ret (v := .tuple #[.int .i64 p, .int .i64 q, .int .i64 k]) (by simp (maxDischargeDepth := 8) [results, Try.results9, go_sem, *]) rfl ?_
  exact ⟨p, q, k, hpq, rfl, hb1⟩
set_option maxHeartbeats 4000000 in
theorem DrawNearestFraction_any (a : Option Addr) (n cap : Nat) (w : World) (hn : n ≤ 9223372036854775807) (hb : Byt w w.heap.size a n) :
    Calls Try.prog 12 #[.slice a n cap] w fun e w' => ∃ p q k : Int, (I64 p ∧ I64 q ∧ I64 k) ∧ e = .returned (.tuple #[.int .i64 p, .int .i64 q, .int .i64 k]) ∧ Below w.heap.size w w' := by
  have HC := Lib.hid (l10With_any 100000 a n cap w hn hb (by omega) (by omega))
  go_enter Try.func12, Try.ntmps12
  go_wp2_with fail
  go_at_call 21
  refine (HC.out).mono ?_
  rintro e w1 ⟨p, q, k, hpq, rfl, hb1⟩
  go_wp2_with fail
  refine bodyPost_ret (v := .tuple #[.int .i64 p, .int .i64 q, .int .i64 k]) (by simp (maxDischargeDepth := 8) [results, Try.results12, go_sem, *]) rfl ?_
  exact ⟨p, q, k, hpq, rfl, hb1⟩
set_option maxHeartbeats 4000000 in
theorem DrawCompareRatios_any (a : Option Addr) (n cap : Nat) (w : World) (hn : n ≤ 9223372036854775807) (hb : Byt w w.heap.size a n) :
    Calls Try.prog 18 #[.slice a n cap] w fun e w' => ∃ p q r t : Int, e = .returned (.tuple #[.int .i64 p, .int .i64 q, .int .i64 r, .int .i64 t]) ∧ Below w.heap.size w w' := by
  have CF : Hid (∀ W, Below w.heap.size w W → Calls Try.prog 26 #[.slice a n cap] W fun e w' => ∃ s, e = .returned (.pointer (some ⟨s, 0, none⟩)) ∧ Sr w' s a n cap ∧ (w.heap.size ≤ s ∧ W.heap.size ≤ s) ∧ Below W.heap.size W w') := fun W hW => (l01From_any a n cap W hn (hb.over hW)).mono (by rintro e w' ⟨rfl, h1, h2⟩; exact ⟨_, rfl, h2, ⟨hW.size, Nat.le_refl _⟩, h1⟩)
  clear hb
  have HB : Hid (Below w.heap.size w w) := Below.refl _ _
  go_enter Try.func18, Try.ntmps18

  go_wp2_with fail
  go_at_call 26
  refine (CF.out _ HB.out).mono ?_
  rintro e w1 ⟨sG, rfl, hs, hsl, hb⟩
  have HB := Lib.hid (below_after hb HB.out)
  clear hb
  have HSR := Lib.hid hs
  have le_s : w.heap.size ≤ sG := by have := hsl; omega
  clear hs
  go_wp2_with fail
  go_at_call 27
  refine (l10Draw_any _ a n cap _ HSR.out).mono ?_
  rintro e w2 ⟨p, q, hpq, rfl, hg, hs⟩
  have HB := Lib.hid (Below.grown HB.out hg HB.out.size (fun k hk => by injection hk with hk; omega))
  have HSR := Lib.hid hs
  clear hg hs
  go_wp2_with fail
  go_at_call 29
  refine (l01Next_any _ a n cap 3 _ HSR.out).mono ?_
  rintro e w3 ⟨v0, rfl, -, hv0, hg, hs⟩
  have HB := Lib.hid (Below.grown HB.out hg HB.out.size (fun k hk => by injection hk with hk; omega))
  have HSR := Lib.hid hs
  clear hg hs
  have hv0b := hv0 (by omega)
  obtain ⟨K, hK⟩ : ∃ x, 1 + v0 = x := ⟨_, rfl⟩
  have hwK : IntKind.i64.wrap (1 + v0) = K := by rw [IntKind.wrap_i64]; omega
  have hxK : wrap64 (1 + v0) = K := by rw [IntWalk.wrap64_in _ ⟨by omega, by omega⟩]; exact hK
  have hbK : 1 ≤ K ∧ K ≤ 3 := by omega
  clear hv0 hv0b hK
  go_wp2_with fail
  go_at_call 29
  refine (l01Next_any _ a n cap 3 _ HSR.out).mono ?_
  rintro e w4 ⟨z, rfl, -, -, hg, hs⟩
  have HB := Lib.hid (Below.grown HB.out hg HB.out.size (fun k hk => by injection hk with hk; omega))
  have HSR := Lib.hid hs
  clear hg hs
  by_cases hz0 : z = 0
  · skip
    clear HSR
    subst hz0
    go_wp2_with fail
    refine bodyPost_ret (v := .tuple #[.int .i64 p, .int .i64 q, .int .i64 (wrap64 (K * p)), .int .i64 (wrap64 (K * q))]) (by simp (maxDischargeDepth := 8) [results, Try.results18, go_sem, *]) rfl ?_
    exact ⟨_, _, _, _, rfl, HB.out⟩
  · skip
    have n0 : (z == 0) = false := by simp [hz0]
    go_wp2_with fail
    go_at_call 27
    refine (l10Draw_any _ a n cap _ HSR.out).mono ?_
    rintro e w5 ⟨p2, q2, -, rfl, hg, hs⟩
    have HB := Lib.hid (Below.grown HB.out hg HB.out.size (fun k hk => by injection hk with hk; omega))
    have HSR := Lib.hid hs
    clear hg hs
    clear HSR
    go_wp2_with fail
    refine bodyPost_ret (v := .tuple #[.int .i64 p, .int .i64 q, .int .i64 p2, .int .i64 q2]) (by simp (maxDischargeDepth := 8) [results, Try.results18, go_sem, *]) rfl ?_
    exact ⟨_, _, _, _, rfl, HB.out⟩
end Go.Proofs.Ytibmkmcdggokbaa
