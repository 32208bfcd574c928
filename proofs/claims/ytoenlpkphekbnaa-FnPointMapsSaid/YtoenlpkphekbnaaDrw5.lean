/-
  The model's Draw functions of points: any points, no panic, old memory as it was (own work).
-/
import Derived.Test.YtoenlpkphekbnaaDrw3
namespace Go.Proofs.Ytoenlpkphekbnaa
open Go.ChangeShapes Go.WideShapes Go.ChangeAt Go.RowKit
set_option linter.unusedVariables false
set_option maxRecDepth 100000
set_option linter.unusedSimpArgs false
set_option maxRecDepth 100000

theorem below_of_grown {a w : World} {s B : Nat} (h : a.grownBy w (some s)) (hB : B ≤ a.heap.size) (hs : B ≤ s) : Below B a w :=
  ⟨h.os, h.tape, h.output, h.size, fun k hk => h.block k (by omega) (fun e => by cases e; omega)⟩
theorem grown_of_below {w w' : World} (hb : Below w.heap.size w w') (row : Option Nat) : w.grownBy w' row := ⟨hb.os, hb.tape, hb.output, hb.size, fun i hi _ => hb.block i hi⟩
theorem Byt.mono {w : World} {s s' : Nat} {a : Option Addr} {n : Nat} (h : Byt w s a n) (hs : s ≤ s') : Byt w s' a n := by
  intro hn
  obtain ⟨b, off, e, hb, hc⟩ := h hn
  exact ⟨b, off, e, by omega, hc⟩
theorem Byt.alloc {w : World} {a : Option Addr} {n : Nat} (h : Byt w w.heap.size a n) (o : Obj) : Byt (w.alloc o) (w.alloc o).heap.size a n :=
  (h.kept (World.grownBy_alloc w o none) (Nat.le_refl _) (fun k e => by cases e)).mono (by simp)
theorem DrawPrimitiveOf_any (a : Option Addr) (n cap : Nat) (w : World) (hn : n ≤ 9223372036854775807) (hb : Byt w w.heap.size a n) :
    Calls Try.prog 25 #[.slice a n cap] w fun e w' => ∃ x y : Int, e = .returned (.agg #[.int .i64 x, .int .i64 y]) ∧ Below w.heap.size w w' := by
  have HB := Lib.hid hb
  clear hb
  go_enter Try.func25, Try.ntmps25
  go_wp2_with fail
  go_at_call 72
  refine (l01From_any a n cap _ hn (HB.out.alloc _)).mono ?_
  rintro e w1 ⟨rfl, hb1, hs1⟩
  have HR1 := Lib.hid ((two_new w (.int .i64 0) (.int .i64 0) 30).kept (grown_of_below hb1 none) (by simp))
  have G1 := Lib.hid ((World.grownBy_alloc w (.cells #[.int .i64 0, .int .i64 0] 30) (some (w.heap.size + 1))).trans (grown_of_below hb1 _))
  simp only [World.size_alloc] at hs1 ⊢
  clear hb1
  go_wp2_with fail
  go_at_call 78
  refine (l01Spoil_any _ a n cap _ hs1).mono ?_
  rintro e w2 ⟨x, y, rfl, hg2, hs2⟩
  obtain ⟨c0, c1, f0, f1, hb⟩ := HR1.out.kept hg2 (fun e => by simp at e)
  have G2 := Lib.hid (G1.out.trans hg2)
  clear hg2 hs1 hs2
  go_wp2
  refine bodyPost_ret (v := .agg #[.int .i64 x, .int .i64 y]) (by simp (maxDischargeDepth := 8) [results, Try.results25, go_sem, *]) rfl ?_
  exact ⟨x, y, rfl, below_of_grown (grown_setN (grown_setN G2.out (Nat.le_refl _) _ _) (Nat.le_refl _) _ _) (Nat.le_refl _) (by omega)⟩
theorem DrawMateOf_any (a : Option Addr) (n cap : Nat) (w : World) (hn : n ≤ 9223372036854775807) (hb : Byt w w.heap.size a n) :
    Calls Try.prog 18 #[.slice a n cap] w fun e w' => ∃ x y : Int, e = .returned (.agg #[.int .i64 x, .int .i64 y]) ∧ Below w.heap.size w w' := by
  have HB := Lib.hid hb
  clear hb
  go_enter Try.func18, Try.ntmps18
  go_wp2_with fail
  go_at_call 72
  refine (l01From_any a n cap _ hn (HB.out.alloc _)).mono ?_
  rintro e w1 ⟨rfl, hb1, hs1⟩
  have HR1 := Lib.hid ((two_new w (.int .i64 0) (.int .i64 0) 30).kept (grown_of_below hb1 none) (by simp))
  have G1 := Lib.hid ((World.grownBy_alloc w (.cells #[.int .i64 0, .int .i64 0] 30) (some (w.heap.size + 1))).trans (grown_of_below hb1 _))
  simp only [World.size_alloc] at hs1 ⊢
  clear hb1
  go_wp2_with fail
  go_at_call 87
  refine (l01Next_any _ a n cap _ _ hs1).mono ?_
  rintro e w2 ⟨v, rfl, -, hv, hg2, hs2⟩
  have HR2 := Lib.hid (HR1.out.kept hg2 (fun e => by simp at e))
  have G2 := Lib.hid (G1.out.trans hg2)
  clear hg2 hs1 hv
  by_cases hz : v = 0
  · subst hz
    go_wp2_with fail
    go_at_call 78
    refine (l01Spoil_any _ a n cap _ hs2).mono ?_
    rintro e w3 ⟨x, y, rfl, hg3, hs3⟩
    obtain ⟨c0, c1, f0, f1, hb⟩ := HR2.out.kept hg3 (fun e => by simp at e)
    have G3 := Lib.hid (G2.out.trans hg3)
    clear hg3 hs2 hs3
    go_wp2
    refine bodyPost_ret (v := .agg #[.int .i64 x, .int .i64 y]) (by simp (maxDischargeDepth := 8) [results, Try.results18, go_sem, *]) rfl ?_
    exact ⟨x, y, rfl, below_of_grown (grown_setN (grown_setN G3.out (Nat.le_refl _) _ _) (Nat.le_refl _) _ _) (Nat.le_refl _) (by omega)⟩
  · go_wp2_with fail
    go_at_call 90
    refine (l01Size_any _ a n cap _ hs2).mono ?_
    rintro e w3 ⟨m, hm1, hm2, rfl, hg3, hs3⟩
    have HR3 := Lib.hid (HR2.out.kept hg3 (fun e => by simp at e))
    have G3 := Lib.hid (G2.out.trans hg3)
    clear hg3 hs2
    go_wp2_with fail
    go_at_call 89
    refine (l01DrawPrimitive_any _ a n cap m _ hs3 hm1 hm2).mono ?_
    rintro e w4 ⟨x, y, rfl, hg4, hs4⟩
    have HR4 := Lib.hid (HR3.out.kept hg4 (fun e => by simp at e))
    have G4 := Lib.hid (G3.out.trans hg4)
    clear hg4 hs3 hm1 hm2
    go_wp2_with fail
    go_at_call 88
    refine (l01Bad_any _ a n cap x y _ hs4).mono ?_
    rintro e w5 ⟨x', y', rfl, hg5, hs5⟩
    obtain ⟨c0, c1, f0, f1, hb⟩ := HR4.out.kept hg5 (fun e => by simp at e)
    have G5 := Lib.hid (G4.out.trans hg5)
    clear hg5 hs4 hs5
    go_wp2
    refine bodyPost_ret (v := .agg #[.int .i64 x', .int .i64 y']) (by simp (maxDischargeDepth := 8) [results, Try.results18, go_sem, *]) rfl ?_
    exact ⟨x', y', rfl, below_of_grown (grown_setN (grown_setN G5.out (Nat.le_refl _) _ _) (Nat.le_refl _) _ _) (Nat.le_refl _) (by omega)⟩
end Go.Proofs.Ytoenlpkphekbnaa
