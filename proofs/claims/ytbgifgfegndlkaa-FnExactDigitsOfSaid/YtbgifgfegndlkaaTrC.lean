/-
  A step of a rule with its matrix, in the program (own work).
-/
import Derived.Test.YtbgifgfegndlkaaTrR
import Derived.Test.YtbgifgfegndlkaaBkS
namespace Go.Proofs.Ytbgifgfegndlkaa
open Go.ChangeShapes Go.WideShapes Go.ChangeAt Go.RowKit
set_option linter.unusedVariables false
set_option linter.unusedSimpArgs false
set_option maxRecDepth 100000

/-- A rule lies in a cell. -/
def RuleAt (w : World) (g : Nat) (T : TypeId) : Prop := w.cell? ⟨g, 0, none⟩ = some (.iface T (.agg #[])) ∧ g < w.heap.size
theorem RuleAt.same {w w' : World} {g : Nat} {T : TypeId} (h : RuleAt w g T) (he : w'.heap[g]? = w.heap[g]?) : RuleAt w' g T :=
  ⟨(World.cell?_of_block (a := ⟨g, 0, none⟩) he).trans h.1, by
    rw [Array.getElem?_eq_getElem h.2] at he
    exact (Array.getElem?_eq_some_iff.1 he).1⟩
theorem RuleAt.below {w w' : World} {g : Nat} {T : TypeId} (h : RuleAt w g T) (hb : Below w.heap.size w w') : RuleAt w' g T := h.same (hb.block g h.2)
theorem RuleAt.far {w : World} {g : Nat} {T : TypeId} (h : RuleAt w g T) (p : Addr) (v : Value) (hne : g ≠ p.block) : RuleAt (w.setCell p v) g T := h.same (Below.heap_setCell w p v g hne)
/-- A row of a matrix behind a step. -/
def NB (i : Nat) (w : World) (g : Nat) (X Y Z r0 r1 r2 r3 r4 r5 r6 r7 r8 : Int) : Prop := match i with
  | 0 => Bk12 w g X Y Z 0 0 0 0 0 0 0 0 0
  | 1 => Bk12 w g X Y Z r0 r1 r2 0 0 0 0 0 0
  | 2 => Bk12 w g X Y Z r0 r1 r2 r3 r4 r5 0 0 0
  | _ => Bk12 w g X Y Z r0 r1 r2 r3 r4 r5 r6 r7 r8
def rwN (k : Nat) (a b c x y z : Int) : Int × Int × Int := at3 (od (rSub k a b c).1 (rSub k a b c).2.1 (rSub k a b c).2.2) (rAdd k x y z).1 (rAdd k x y z).2.1 (rAdd k x y z).2.2
set_option maxHeartbeats 6400000 in
theorem step_ok (a b c m0 m1 m2 m3 m4 m5 m6 m7 m8 u v z P Q R X Y Z s0 s1 s2 s3 s4 s5 s6 s7 s8 r0 r1 r2 r3 r4 r5 r6 r7 r8 : Int) (T F1 F2 GQ : Nat) (w : World)
    (hm1 : ∀ w, (Go.method 232 T (.agg #[]) "loop.example/g01297/impl.subtracted").run Try.prog w = .ok (F1, .agg #[]) w) (hc1 : ∀ args w, (callFunc F1 args).run Try.prog w = .ok (.enter F1 args) w)
    (hm2 : ∀ w, (Go.method 232 T (.agg #[]) "loop.example/g01297/impl.added").run Try.prog w = .ok (F2, .agg #[]) w) (hc2 : ∀ args w, (callFunc F2 args).run Try.prog w = .ok (.enter F2 args) w)
    (HSUB : Hid (∀ w, Calls Try.prog F1 #[.agg #[], .agg #[.int .i64 a, .int .i64 b, .int .i64 c]] w fun e w' => e = .returned (.agg #[.int .i64 u, .int .i64 v, .int .i64 z]) ∧ Below w.heap.size w w'))
    (HORD : Hid (∀ w, Calls Try.prog 58 #[.agg #[.int .i64 u, .int .i64 v, .int .i64 z]] w fun e w' => e = .returned (.agg #[.int .i64 P, .int .i64 Q, .int .i64 R]) ∧ Below w.heap.size w w'))
    (HIN : Hid (∀ w, Calls Try.prog 57 #[.agg #[.int .i64 u, .int .i64 v, .int .i64 z], .agg #[.int .i64 P, .int .i64 Q, .int .i64 R]] w fun e w' => e = .returned (.agg #[.int .i64 X, .int .i64 Y, .int .i64 Z]) ∧ Below w.heap.size w w'))
    (HADD0 : Hid (∀ w, Calls Try.prog F2 #[.agg #[], .agg #[.int .i64 m0, .int .i64 m1, .int .i64 m2]] w fun e w' => e = .returned (.agg #[.int .i64 s0, .int .i64 s1, .int .i64 s2]) ∧ Below w.heap.size w w'))
    (HIN0 : Hid (∀ w, Calls Try.prog 57 #[.agg #[.int .i64 s0, .int .i64 s1, .int .i64 s2], .agg #[.int .i64 P, .int .i64 Q, .int .i64 R]] w fun e w' => e = .returned (.agg #[.int .i64 r0, .int .i64 r1, .int .i64 r2]) ∧ Below w.heap.size w w'))
    (HADD1 : Hid (∀ w, Calls Try.prog F2 #[.agg #[], .agg #[.int .i64 m3, .int .i64 m4, .int .i64 m5]] w fun e w' => e = .returned (.agg #[.int .i64 s3, .int .i64 s4, .int .i64 s5]) ∧ Below w.heap.size w w'))
    (HIN1 : Hid (∀ w, Calls Try.prog 57 #[.agg #[.int .i64 s3, .int .i64 s4, .int .i64 s5], .agg #[.int .i64 P, .int .i64 Q, .int .i64 R]] w fun e w' => e = .returned (.agg #[.int .i64 r3, .int .i64 r4, .int .i64 r5]) ∧ Below w.heap.size w w'))
    (HADD2 : Hid (∀ w, Calls Try.prog F2 #[.agg #[], .agg #[.int .i64 m6, .int .i64 m7, .int .i64 m8]] w fun e w' => e = .returned (.agg #[.int .i64 s6, .int .i64 s7, .int .i64 s8]) ∧ Below w.heap.size w w'))
    (HIN2 : Hid (∀ w, Calls Try.prog 57 #[.agg #[.int .i64 s6, .int .i64 s7, .int .i64 s8], .agg #[.int .i64 P, .int .i64 Q, .int .i64 R]] w fun e w' => e = .returned (.agg #[.int .i64 r6, .int .i64 r7, .int .i64 r8]) ∧ Below w.heap.size w w'))
    (HQ0 : Hid (RuleAt w GQ T)) :
    Calls Try.prog 96 #[.agg #[.int .i64 a, .int .i64 b, .int .i64 c, .int .i64 m0, .int .i64 m1, .int .i64 m2, .int .i64 m3, .int .i64 m4, .int .i64 m5, .int .i64 m6, .int .i64 m7, .int .i64 m8], .pointer (some ⟨GQ, 0, none⟩)] w fun e w' => e = .returned (.agg #[.int .i64 X, .int .i64 Y, .int .i64 Z, .int .i64 r0, .int .i64 r1, .int .i64 r2, .int .i64 r3, .int .i64 r4, .int .i64 r5, .int .i64 r6, .int .i64 r7, .int .i64 r8]) ∧ Below w.heap.size w w' := by
  have hQlt : GQ < w.heap.size := HQ0.out.2
  have hidx0 : ∀ w : World, (Instr.index 43 (.agg #[.int .i64 m0, .int .i64 m1, .int .i64 m2, .int .i64 m3, .int .i64 m4, .int .i64 m5, .int .i64 m6, .int .i64 m7, .int .i64 m8]) (.int .i64 0)).run Try.prog w = .ok (.agg #[.int .i64 m0, .int .i64 m1, .int .i64 m2]) w := fun _ => by kernel_rfl
  have hidx1 : ∀ w : World, (Instr.index 43 (.agg #[.int .i64 m0, .int .i64 m1, .int .i64 m2, .int .i64 m3, .int .i64 m4, .int .i64 m5, .int .i64 m6, .int .i64 m7, .int .i64 m8]) (.int .i64 1)).run Try.prog w = .ok (.agg #[.int .i64 m3, .int .i64 m4, .int .i64 m5]) w := fun _ => by kernel_rfl
  have hidx2 : ∀ w : World, (Instr.index 43 (.agg #[.int .i64 m0, .int .i64 m1, .int .i64 m2, .int .i64 m3, .int .i64 m4, .int .i64 m5, .int .i64 m6, .int .i64 m7, .int .i64 m8]) (.int .i64 2)).run Try.prog w = .ok (.agg #[.int .i64 m6, .int .i64 m7, .int .i64 m8]) w := fun _ => by kernel_rfl
  obtain ⟨GS, hG⟩ : ∃ G, w.heap.size = G := ⟨_, rfl⟩
  have HG := Lib.hid hG
  go_enter Try.func96, Try.ntmps96
  go_upto_region 1 with fail
  obtain ⟨w0, hw0⟩ : ∃ w0, w0 = ((w.alloc (.cells #[.int .i64 a, .int .i64 b, .int .i64 c, .int .i64 m0, .int .i64 m1, .int .i64 m2, .int .i64 m3, .int .i64 m4, .int .i64 m5, .int .i64 m6, .int .i64 m7, .int .i64 m8] 69)).alloc (.cells #[.int .i64 0, .int .i64 0, .int .i64 0, .int .i64 0, .int .i64 0, .int .i64 0, .int .i64 0, .int .i64 0, .int .i64 0, .int .i64 0, .int .i64 0, .int .i64 0] 69)) := ⟨_, rfl⟩
  rw [← hw0]
  have HS : Hid (Bk12 w0 GS a b c m0 m1 m2 m3 m4 m5 m6 m7 m8) := by
    have h := (bk12_new w a b c m0 m1 m2 m3 m4 m5 m6 m7 m8 69).below (W' := ((w.alloc (.cells #[.int .i64 a, .int .i64 b, .int .i64 c, .int .i64 m0, .int .i64 m1, .int .i64 m2, .int .i64 m3, .int .i64 m4, .int .i64 m5, .int .i64 m6, .int .i64 m7, .int .i64 m8] 69)).alloc (.cells #[.int .i64 0, .int .i64 0, .int .i64 0, .int .i64 0, .int .i64 0, .int .i64 0, .int .i64 0, .int .i64 0, .int .i64 0, .int .i64 0, .int .i64 0, .int .i64 0] 69))) (by (repeat' (first | (with_reducible exact Below.refl _ _) | (with_reducible refine Below.alloc ?_ ?_ _) | (with_reducible refine Below.setCell ?_ ?_ _) | (with_reducible refine Below.drew ?_) | (with_reducible refine below_drewN ?_ _) | (with_reducible assumption) | (with_reducible refine below_after (by with_reducible assumption) ?_) | go_size)))
    (try simp only [World.size_alloc] at h)
    rw [hG] at h
    rw [hw0]; exact h
  have HR : Hid (Bk12 w0 (GS + 1) 0 0 0 0 0 0 0 0 0 0 0 0) := by
    have h := (bk12_new (w.alloc (.cells #[.int .i64 a, .int .i64 b, .int .i64 c, .int .i64 m0, .int .i64 m1, .int .i64 m2, .int .i64 m3, .int .i64 m4, .int .i64 m5, .int .i64 m6, .int .i64 m7, .int .i64 m8] 69)) 0 0 0 0 0 0 0 0 0 0 0 0 69).below (W' := ((w.alloc (.cells #[.int .i64 a, .int .i64 b, .int .i64 c, .int .i64 m0, .int .i64 m1, .int .i64 m2, .int .i64 m3, .int .i64 m4, .int .i64 m5, .int .i64 m6, .int .i64 m7, .int .i64 m8] 69)).alloc (.cells #[.int .i64 0, .int .i64 0, .int .i64 0, .int .i64 0, .int .i64 0, .int .i64 0, .int .i64 0, .int .i64 0, .int .i64 0, .int .i64 0, .int .i64 0, .int .i64 0] 69))) (by (repeat' (first | (with_reducible exact Below.refl _ _) | (with_reducible refine Below.alloc ?_ ?_ _) | (with_reducible refine Below.setCell ?_ ?_ _) | (with_reducible refine Below.drew ?_) | (with_reducible refine below_drewN ?_ _) | (with_reducible assumption) | (with_reducible refine below_after (by with_reducible assumption) ?_) | go_size)))
    (try simp only [World.size_alloc] at h)
    rw [hG] at h
    rw [hw0]; exact h
  have HB : Hid (Below w.heap.size w w0) := by show Below w.heap.size w w0; rw [hw0]; (repeat' (first | (with_reducible exact Below.refl _ _) | (with_reducible refine Below.alloc ?_ ?_ _) | (with_reducible refine Below.setCell ?_ ?_ _) | (with_reducible refine Below.drew ?_) | (with_reducible refine below_drewN ?_ _) | (with_reducible assumption) | (with_reducible refine below_after (by with_reducible assumption) ?_) | go_size))
  clear hw0
  obtain ⟨GR, hGR⟩ : ∃ g, GS + 1 = g := ⟨_, rfl⟩
  rw [hGR] at HR ⊢
  have le_S : w.heap.size ≤ GS := by omega
  have le_R : w.heap.size ≤ GR := by omega
  have ne_R_S : GR ≠ GS := by omega
  have ne_S_R : GS ≠ GR := by omega
  clear hGR
  have HQ := Lib.hid (HQ0.out.below HB.out)
  obtain ⟨⟨qS0, qS1, qS2, qS3, qS4, qS5, qS6, qS7, qS8, qS9, qS10, qS11⟩, ⟨fS0, fS1, fS2, fS3, fS4, fS5, fS6, fS7, fS8, fS9, fS10, fS11⟩, zS⟩ := HS.out
  obtain ⟨⟨qR0, qR1, qR2, qR3, qR4, qR5, qR6, qR7, qR8, qR9, qR10, qR11⟩, ⟨fR0, fR1, fR2, fR3, fR4, fR5, fR6, fR7, fR8, fR9, fR10, fR11⟩, zR⟩ := HR.out
  obtain ⟨cQ, zQ⟩ := HQ.out
  go_wp2_with fail
  refine (HSUB.out _).mono ?_
  rintro e w1 ⟨rfl, hb⟩
  clear cQ zQ
  clear qS0 fS0 qS1 fS1 qS2 fS2 qS3 fS3 qS4 fS4 qS5 fS5 qS6 fS6 qS7 fS7 qS8 fS8 qS9 fS9 qS10 fS10 qS11 fS11 zS qR0 fR0 qR1 fR1 qR2 fR2 qR3 fR3 qR4 fR4 qR5 fR5 qR6 fR6 qR7 fR7 qR8 fR8 qR9 fR9 qR10 fR10 qR11 fR11 zR
  have HS := Lib.hid (HS.out.below hb)
  have HR := Lib.hid (HR.out.below hb)
  have HQ := Lib.hid (HQ.out.below hb)
  have HB := Lib.hid (below_after hb HB.out)
  clear hb
  obtain ⟨⟨qS0, qS1, qS2, qS3, qS4, qS5, qS6, qS7, qS8, qS9, qS10, qS11⟩, ⟨fS0, fS1, fS2, fS3, fS4, fS5, fS6, fS7, fS8, fS9, fS10, fS11⟩, zS⟩ := HS.out
  obtain ⟨⟨qR0, qR1, qR2, qR3, qR4, qR5, qR6, qR7, qR8, qR9, qR10, qR11⟩, ⟨fR0, fR1, fR2, fR3, fR4, fR5, fR6, fR7, fR8, fR9, fR10, fR11⟩, zR⟩ := HR.out
  obtain ⟨cQ, zQ⟩ := HQ.out
  go_upto_region 2 with fail
  obtain ⟨GM, hGM⟩ : ∃ g, w1.heap.size = g := ⟨_, rfl⟩
  obtain ⟨w2, hw2⟩ : ∃ wx, wx = w1.alloc (.cells #[.int .i64 u, .int .i64 v, .int .i64 z] 24) := ⟨_, rfl⟩
  rw [← hw2, hGM]
  have HM : Hid (Bk3 w2 GM u v z) := by rw [hw2, ← hGM]; exact bk3_new w1 u v z _
  have le_M : w.heap.size ≤ GM := by rw [← hGM]; exact HB.out.size
  have ne_M_S : GM ≠ GS := by have := HS.out.2.2; omega
  have ne_S_M : GS ≠ GM := Ne.symm ne_M_S
  have ne_M_R : GM ≠ GR := by have := HR.out.2.2; omega
  have ne_R_M : GR ≠ GM := Ne.symm ne_M_R
  clear cQ zQ
  clear qS0 fS0 qS1 fS1 qS2 fS2 qS3 fS3 qS4 fS4 qS5 fS5 qS6 fS6 qS7 fS7 qS8 fS8 qS9 fS9 qS10 fS10 qS11 fS11 zS qR0 fR0 qR1 fR1 qR2 fR2 qR3 fR3 qR4 fR4 qR5 fR5 qR6 fR6 qR7 fR7 qR8 fR8 qR9 fR9 qR10 fR10 qR11 fR11 zR
  have HS := Lib.hid (HS.out.below ((Below.refl _ _).alloc (Nat.le_refl _) (.cells #[.int .i64 u, .int .i64 v, .int .i64 z] 24)))
  have HR := Lib.hid (HR.out.below ((Below.refl _ _).alloc (Nat.le_refl _) (.cells #[.int .i64 u, .int .i64 v, .int .i64 z] 24)))
  have HQ := Lib.hid (HQ.out.below ((Below.refl _ _).alloc (Nat.le_refl _) (.cells #[.int .i64 u, .int .i64 v, .int .i64 z] 24)))
  have HB := Lib.hid (Below.alloc HB.out HB.out.size (.cells #[.int .i64 u, .int .i64 v, .int .i64 z] 24))
  rw [← hw2] at HS HR HQ HB
  clear hw2 hGM
  obtain ⟨⟨qS0, qS1, qS2, qS3, qS4, qS5, qS6, qS7, qS8, qS9, qS10, qS11⟩, ⟨fS0, fS1, fS2, fS3, fS4, fS5, fS6, fS7, fS8, fS9, fS10, fS11⟩, zS⟩ := HS.out
  obtain ⟨⟨qR0, qR1, qR2, qR3, qR4, qR5, qR6, qR7, qR8, qR9, qR10, qR11⟩, ⟨fR0, fR1, fR2, fR3, fR4, fR5, fR6, fR7, fR8, fR9, fR10, fR11⟩, zR⟩ := HR.out
  obtain ⟨⟨qM0, qM1, qM2⟩, ⟨fM0, fM1, fM2⟩, zM⟩ := HM.out
  obtain ⟨cQ, zQ⟩ := HQ.out
  go_wp2_with fail
  go_at_call 58
  refine (HORD.out _).mono ?_
  rintro e w3 ⟨rfl, hb⟩
  clear cQ zQ
  clear qS0 fS0 qS1 fS1 qS2 fS2 qS3 fS3 qS4 fS4 qS5 fS5 qS6 fS6 qS7 fS7 qS8 fS8 qS9 fS9 qS10 fS10 qS11 fS11 zS qR0 fR0 qR1 fR1 qR2 fR2 qR3 fR3 qR4 fR4 qR5 fR5 qR6 fR6 qR7 fR7 qR8 fR8 qR9 fR9 qR10 fR10 qR11 fR11 zR qM0 fM0 qM1 fM1 qM2 fM2 zM
  have HS := Lib.hid (HS.out.below hb)
  have HR := Lib.hid (HR.out.below hb)
  have HM := Lib.hid (HM.out.below hb)
  have HQ := Lib.hid (HQ.out.below hb)
  have HB := Lib.hid (below_after hb HB.out)
  clear hb
  obtain ⟨⟨qS0, qS1, qS2, qS3, qS4, qS5, qS6, qS7, qS8, qS9, qS10, qS11⟩, ⟨fS0, fS1, fS2, fS3, fS4, fS5, fS6, fS7, fS8, fS9, fS10, fS11⟩, zS⟩ := HS.out
  obtain ⟨⟨qR0, qR1, qR2, qR3, qR4, qR5, qR6, qR7, qR8, qR9, qR10, qR11⟩, ⟨fR0, fR1, fR2, fR3, fR4, fR5, fR6, fR7, fR8, fR9, fR10, fR11⟩, zR⟩ := HR.out
  obtain ⟨⟨qM0, qM1, qM2⟩, ⟨fM0, fM1, fM2⟩, zM⟩ := HM.out
  obtain ⟨cQ, zQ⟩ := HQ.out
  go_upto_region 3 with fail
  obtain ⟨GO, hGO⟩ : ∃ g, w3.heap.size = g := ⟨_, rfl⟩
  obtain ⟨w4, hw4⟩ : ∃ wx, wx = w3.alloc (.cells #[.int .i64 P, .int .i64 Q, .int .i64 R] 63) := ⟨_, rfl⟩
  rw [← hw4, hGO]
  have HO : Hid (Bk3 w4 GO P Q R) := by rw [hw4, ← hGO]; exact bk3_new w3 P Q R _
  have le_O : w.heap.size ≤ GO := by rw [← hGO]; exact HB.out.size
  have ne_O_S : GO ≠ GS := by have := HS.out.2.2; omega
  have ne_S_O : GS ≠ GO := Ne.symm ne_O_S
  have ne_O_R : GO ≠ GR := by have := HR.out.2.2; omega
  have ne_R_O : GR ≠ GO := Ne.symm ne_O_R
  have ne_O_M : GO ≠ GM := by have := HM.out.2.2; omega
  have ne_M_O : GM ≠ GO := Ne.symm ne_O_M
  clear cQ zQ
  clear qS0 fS0 qS1 fS1 qS2 fS2 qS3 fS3 qS4 fS4 qS5 fS5 qS6 fS6 qS7 fS7 qS8 fS8 qS9 fS9 qS10 fS10 qS11 fS11 zS qR0 fR0 qR1 fR1 qR2 fR2 qR3 fR3 qR4 fR4 qR5 fR5 qR6 fR6 qR7 fR7 qR8 fR8 qR9 fR9 qR10 fR10 qR11 fR11 zR qM0 fM0 qM1 fM1 qM2 fM2 zM
  have HS := Lib.hid (HS.out.below ((Below.refl _ _).alloc (Nat.le_refl _) (.cells #[.int .i64 P, .int .i64 Q, .int .i64 R] 63)))
  have HR := Lib.hid (HR.out.below ((Below.refl _ _).alloc (Nat.le_refl _) (.cells #[.int .i64 P, .int .i64 Q, .int .i64 R] 63)))
  have HM := Lib.hid (HM.out.below ((Below.refl _ _).alloc (Nat.le_refl _) (.cells #[.int .i64 P, .int .i64 Q, .int .i64 R] 63)))
  have HQ := Lib.hid (HQ.out.below ((Below.refl _ _).alloc (Nat.le_refl _) (.cells #[.int .i64 P, .int .i64 Q, .int .i64 R] 63)))
  have HB := Lib.hid (Below.alloc HB.out HB.out.size (.cells #[.int .i64 P, .int .i64 Q, .int .i64 R] 63))
  rw [← hw4] at HS HR HM HQ HB
  clear hw4 hGO
  obtain ⟨⟨qS0, qS1, qS2, qS3, qS4, qS5, qS6, qS7, qS8, qS9, qS10, qS11⟩, ⟨fS0, fS1, fS2, fS3, fS4, fS5, fS6, fS7, fS8, fS9, fS10, fS11⟩, zS⟩ := HS.out
  obtain ⟨⟨qR0, qR1, qR2, qR3, qR4, qR5, qR6, qR7, qR8, qR9, qR10, qR11⟩, ⟨fR0, fR1, fR2, fR3, fR4, fR5, fR6, fR7, fR8, fR9, fR10, fR11⟩, zR⟩ := HR.out
  obtain ⟨⟨qM0, qM1, qM2⟩, ⟨fM0, fM1, fM2⟩, zM⟩ := HM.out
  obtain ⟨⟨qO0, qO1, qO2⟩, ⟨fO0, fO1, fO2⟩, zO⟩ := HO.out
  obtain ⟨cQ, zQ⟩ := HQ.out
  go_wp2_with fail
  go_at_call 57
  refine (HIN.out _).mono ?_
  rintro e w5 ⟨rfl, hb⟩
  clear cQ zQ
  clear qS0 fS0 qS1 fS1 qS2 fS2 qS3 fS3 qS4 fS4 qS5 fS5 qS6 fS6 qS7 fS7 qS8 fS8 qS9 fS9 qS10 fS10 qS11 fS11 zS qR0 fR0 qR1 fR1 qR2 fR2 qR3 fR3 qR4 fR4 qR5 fR5 qR6 fR6 qR7 fR7 qR8 fR8 qR9 fR9 qR10 fR10 qR11 fR11 zR qM0 fM0 qM1 fM1 qM2 fM2 zM qO0 fO0 qO1 fO1 qO2 fO2 zO
  have HS := Lib.hid (HS.out.below hb)
  have HR := Lib.hid (HR.out.below hb)
  have HM := Lib.hid (HM.out.below hb)
  have HO := Lib.hid (HO.out.below hb)
  have HQ := Lib.hid (HQ.out.below hb)
  have HB := Lib.hid (below_after hb HB.out)
  clear hb
  obtain ⟨⟨qS0, qS1, qS2, qS3, qS4, qS5, qS6, qS7, qS8, qS9, qS10, qS11⟩, ⟨fS0, fS1, fS2, fS3, fS4, fS5, fS6, fS7, fS8, fS9, fS10, fS11⟩, zS⟩ := HS.out
  obtain ⟨⟨qR0, qR1, qR2, qR3, qR4, qR5, qR6, qR7, qR8, qR9, qR10, qR11⟩, ⟨fR0, fR1, fR2, fR3, fR4, fR5, fR6, fR7, fR8, fR9, fR10, fR11⟩, zR⟩ := HR.out
  obtain ⟨⟨qM0, qM1, qM2⟩, ⟨fM0, fM1, fM2⟩, zM⟩ := HM.out
  obtain ⟨⟨qO0, qO1, qO2⟩, ⟨fO0, fO1, fO2⟩, zO⟩ := HO.out
  obtain ⟨cQ, zQ⟩ := HQ.out
  go_upto_region 4 with fail
  obtain ⟨GN, hGN⟩ : ∃ g, w5.heap.size = g := ⟨_, rfl⟩
  obtain ⟨w6, hw6⟩ : ∃ wx, wx = w5.alloc (.cells #[.int .i64 X, .int .i64 Y, .int .i64 Z, .int .i64 0, .int .i64 0, .int .i64 0, .int .i64 0, .int .i64 0, .int .i64 0, .int .i64 0, .int .i64 0, .int .i64 0] 69) := ⟨_, rfl⟩
  rw [← hw6, hGN]
  have HN : Hid (Bk12 w6 GN X Y Z 0 0 0 0 0 0 0 0 0) := by rw [hw6, ← hGN]; exact bk12_new w5 X Y Z 0 0 0 0 0 0 0 0 0 _
  have le_N : w.heap.size ≤ GN := by rw [← hGN]; exact HB.out.size
  have ne_N_S : GN ≠ GS := by have := HS.out.2.2; omega
  have ne_S_N : GS ≠ GN := Ne.symm ne_N_S
  have ne_N_R : GN ≠ GR := by have := HR.out.2.2; omega
  have ne_R_N : GR ≠ GN := Ne.symm ne_N_R
  have ne_N_M : GN ≠ GM := by have := HM.out.2.2; omega
  have ne_M_N : GM ≠ GN := Ne.symm ne_N_M
  have ne_N_O : GN ≠ GO := by have := HO.out.2.2; omega
  have ne_O_N : GO ≠ GN := Ne.symm ne_N_O
  clear cQ zQ
  clear qS0 fS0 qS1 fS1 qS2 fS2 qS3 fS3 qS4 fS4 qS5 fS5 qS6 fS6 qS7 fS7 qS8 fS8 qS9 fS9 qS10 fS10 qS11 fS11 zS qR0 fR0 qR1 fR1 qR2 fR2 qR3 fR3 qR4 fR4 qR5 fR5 qR6 fR6 qR7 fR7 qR8 fR8 qR9 fR9 qR10 fR10 qR11 fR11 zR qM0 fM0 qM1 fM1 qM2 fM2 zM qO0 fO0 qO1 fO1 qO2 fO2 zO
  have HS := Lib.hid (HS.out.below ((Below.refl _ _).alloc (Nat.le_refl _) (.cells #[.int .i64 X, .int .i64 Y, .int .i64 Z, .int .i64 0, .int .i64 0, .int .i64 0, .int .i64 0, .int .i64 0, .int .i64 0, .int .i64 0, .int .i64 0, .int .i64 0] 69)))
  have HR := Lib.hid (HR.out.below ((Below.refl _ _).alloc (Nat.le_refl _) (.cells #[.int .i64 X, .int .i64 Y, .int .i64 Z, .int .i64 0, .int .i64 0, .int .i64 0, .int .i64 0, .int .i64 0, .int .i64 0, .int .i64 0, .int .i64 0, .int .i64 0] 69)))
  have HM := Lib.hid (HM.out.below ((Below.refl _ _).alloc (Nat.le_refl _) (.cells #[.int .i64 X, .int .i64 Y, .int .i64 Z, .int .i64 0, .int .i64 0, .int .i64 0, .int .i64 0, .int .i64 0, .int .i64 0, .int .i64 0, .int .i64 0, .int .i64 0] 69)))
  have HO := Lib.hid (HO.out.below ((Below.refl _ _).alloc (Nat.le_refl _) (.cells #[.int .i64 X, .int .i64 Y, .int .i64 Z, .int .i64 0, .int .i64 0, .int .i64 0, .int .i64 0, .int .i64 0, .int .i64 0, .int .i64 0, .int .i64 0, .int .i64 0] 69)))
  have HQ := Lib.hid (HQ.out.below ((Below.refl _ _).alloc (Nat.le_refl _) (.cells #[.int .i64 X, .int .i64 Y, .int .i64 Z, .int .i64 0, .int .i64 0, .int .i64 0, .int .i64 0, .int .i64 0, .int .i64 0, .int .i64 0, .int .i64 0, .int .i64 0] 69)))
  have HB := Lib.hid (Below.alloc HB.out HB.out.size (.cells #[.int .i64 X, .int .i64 Y, .int .i64 Z, .int .i64 0, .int .i64 0, .int .i64 0, .int .i64 0, .int .i64 0, .int .i64 0, .int .i64 0, .int .i64 0, .int .i64 0] 69))
  rw [← hw6] at HS HR HM HO HQ HB
  clear hw6 hGN
  clear HM
  obtain ⟨⟨qS0, qS1, qS2, qS3, qS4, qS5, qS6, qS7, qS8, qS9, qS10, qS11⟩, ⟨fS0, fS1, fS2, fS3, fS4, fS5, fS6, fS7, fS8, fS9, fS10, fS11⟩, zS⟩ := HS.out
  obtain ⟨⟨qR0, qR1, qR2, qR3, qR4, qR5, qR6, qR7, qR8, qR9, qR10, qR11⟩, ⟨fR0, fR1, fR2, fR3, fR4, fR5, fR6, fR7, fR8, fR9, fR10, fR11⟩, zR⟩ := HR.out
  obtain ⟨⟨qO0, qO1, qO2⟩, ⟨fO0, fO1, fO2⟩, zO⟩ := HO.out
  obtain ⟨⟨qN0, qN1, qN2, qN3, qN4, qN5, qN6, qN7, qN8, qN9, qN10, qN11⟩, ⟨fN0, fN1, fN2, fN3, fN4, fN5, fN6, fN7, fN8, fN9, fN10, fN11⟩, zN⟩ := HN.out
  obtain ⟨cQ, zQ⟩ := HQ.out
  go_wp2_with fail
  clear cQ zQ
  clear qS0 fS0 qS1 fS1 qS2 fS2 qS3 fS3 qS4 fS4 qS5 fS5 qS6 fS6 qS7 fS7 qS8 fS8 qS9 fS9 qS10 fS10 qS11 fS11 zS qR0 fR0 qR1 fR1 qR2 fR2 qR3 fR3 qR4 fR4 qR5 fR5 qR6 fR6 qR7 fR7 qR8 fR8 qR9 fR9 qR10 fR10 qR11 fR11 zR qO0 fO0 qO1 fO1 qO2 fO2 zO qN0 fN0 qN1 fN1 qN2 fN2 qN3 fN3 qN4 fN4 qN5 fN5 qN6 fN6 qN7 fN7 qN8 fN8 qN9 fN9 qN10 fN10 qN11 fN11 zN
  clear HS
  have HLQ := Lib.hid hQlt
  have HL1 := Lib.hid le_R
  have HL2 := Lib.hid le_O
  have HL3 := Lib.hid le_N
  have HNE := Lib.hid (And.intro ne_R_O (And.intro ne_R_N (And.intro ne_O_N (And.intro ne_O_R (And.intro ne_N_R ne_N_O)))))
  clear HQ0 HSUB HORD HIN hm1 hc1
  go_loopw [21] (fun y wr => ∃ i : Nat, y = .int .i64 (i : Int) ∧ i ≤ 3 ∧ NB i wr GN X Y Z r0 r1 r2 r3 r4 r5 r6 r7 r8 ∧ Bk12 wr GR 0 0 0 0 0 0 0 0 0 0 0 0 ∧ Bk3 wr GO P Q R ∧ RuleAt wr GQ T ∧ Below w.heap.size w wr) (fun y _ => 3 - (intOf y).toNat)
  case atStart => exact ⟨0, rfl, by omega, HN.out, HR.out, HO.out, HQ.out, HB.out⟩
  case round =>
    obtain ⟨i, rfl, hi, hN, hR, hO, hQ, hbel⟩ := hrel
    clear HN HR HO HQ HB
    have HR := Lib.hid hR
    have HO := Lib.hid hO
    have HQ := Lib.hid hQ
    have HB := Lib.hid hbel
    have HNB := Lib.hid hN
    clear hR hO hQ hbel hN
    obtain ⟨ne_R_O, ne_R_N, ne_O_N, ne_O_R, ne_N_R, ne_N_O⟩ := HNE.out
    have le_R := HL1.out
    have le_O := HL2.out
    have le_N := HL3.out
    have hQlt := HLQ.out
    rcases (show i = 0 ∨ i = 1 ∨ i = 2 ∨ i = 3 by omega) with rfl | rfl | rfl | rfl
    · rw [show ((0 : Nat) : Int) = 0 from rfl]
      have HN : Hid (Bk12 wr GN X Y Z 0 0 0 0 0 0 0 0 0) := HNB.out
      clear HNB
      obtain ⟨⟨qR0, qR1, qR2, qR3, qR4, qR5, qR6, qR7, qR8, qR9, qR10, qR11⟩, ⟨fR0, fR1, fR2, fR3, fR4, fR5, fR6, fR7, fR8, fR9, fR10, fR11⟩, zR⟩ := HR.out
      obtain ⟨⟨qO0, qO1, qO2⟩, ⟨fO0, fO1, fO2⟩, zO⟩ := HO.out
      obtain ⟨⟨qN0, qN1, qN2, qN3, qN4, qN5, qN6, qN7, qN8, qN9, qN10, qN11⟩, ⟨fN0, fN1, fN2, fN3, fN4, fN5, fN6, fN7, fN8, fN9, fN10, fN11⟩, zN⟩ := HN.out
      obtain ⟨cQ, zQ⟩ := HQ.out
      go_upto_region 7 with fail
      obtain ⟨GW0, hGW0⟩ : ∃ g, wr.heap.size = g := ⟨_, rfl⟩
      obtain ⟨w21, hw21⟩ : ∃ wx, wx = wr.alloc (.cells #[.int .i64 m0, .int .i64 m1, .int .i64 m2] 22) := ⟨_, rfl⟩
      rw [← hw21, hGW0]
      have HW0 : Hid (Bk3 w21 GW0 m0 m1 m2) := by rw [hw21, ← hGW0]; exact bk3_new wr m0 m1 m2 _
      have le_W0 : w.heap.size ≤ GW0 := by rw [← hGW0]; exact HB.out.size
      have ne_W0_R : GW0 ≠ GR := by have := HR.out.2.2; omega
      have ne_R_W0 : GR ≠ GW0 := Ne.symm ne_W0_R
      have ne_W0_O : GW0 ≠ GO := by have := HO.out.2.2; omega
      have ne_O_W0 : GO ≠ GW0 := Ne.symm ne_W0_O
      have ne_W0_N : GW0 ≠ GN := by have := HN.out.2.2; omega
      have ne_N_W0 : GN ≠ GW0 := Ne.symm ne_W0_N
      clear cQ zQ
      clear qR0 fR0 qR1 fR1 qR2 fR2 qR3 fR3 qR4 fR4 qR5 fR5 qR6 fR6 qR7 fR7 qR8 fR8 qR9 fR9 qR10 fR10 qR11 fR11 zR qO0 fO0 qO1 fO1 qO2 fO2 zO qN0 fN0 qN1 fN1 qN2 fN2 qN3 fN3 qN4 fN4 qN5 fN5 qN6 fN6 qN7 fN7 qN8 fN8 qN9 fN9 qN10 fN10 qN11 fN11 zN
      have HR := Lib.hid (HR.out.below ((Below.refl _ _).alloc (Nat.le_refl _) (.cells #[.int .i64 m0, .int .i64 m1, .int .i64 m2] 22)))
      have HO := Lib.hid (HO.out.below ((Below.refl _ _).alloc (Nat.le_refl _) (.cells #[.int .i64 m0, .int .i64 m1, .int .i64 m2] 22)))
      have HN := Lib.hid (HN.out.below ((Below.refl _ _).alloc (Nat.le_refl _) (.cells #[.int .i64 m0, .int .i64 m1, .int .i64 m2] 22)))
      have HQ := Lib.hid (HQ.out.below ((Below.refl _ _).alloc (Nat.le_refl _) (.cells #[.int .i64 m0, .int .i64 m1, .int .i64 m2] 22)))
      have HB := Lib.hid (Below.alloc HB.out HB.out.size (.cells #[.int .i64 m0, .int .i64 m1, .int .i64 m2] 22))
      rw [← hw21] at HR HO HN HQ HB
      clear hw21 hGW0
      go_wp2_with fail
      refine wp_region_held_drew (S := fun W => Below w.heap.size w W ∧ Bk12 W GR 0 0 0 0 0 0 0 0 0 0 0 0 ∧ Bk3 W GO P Q R ∧ Bk3 W GW0 m0 m1 m2 ∧ RuleAt W GQ T) (by kernel_rfl) ?_ (fun hHeld => ?_); focus ((try dsimp only); exact ⟨Below.drew HB.out, HR.out.below (Below.drew (Below.refl _ _)), HO.out.below (Below.drew (Below.refl _ _)), HW0.out.below (Below.drew (Below.refl _ _)), HQ.out.below (Below.drew (Below.refl _ _))⟩)
      have HR := Lib.hid (HR.out.below (Below.drew (Below.refl _ _)))
      have HO := Lib.hid (HO.out.below (Below.drew (Below.refl _ _)))
      have HN := Lib.hid (HN.out.below (Below.drew (Below.refl _ _)))
      have HW0 := Lib.hid (HW0.out.below (Below.drew (Below.refl _ _)))
      have HQ := Lib.hid (HQ.out.below (Below.drew (Below.refl _ _)))
      have hHeld : (fun W => Below w.heap.size w W ∧ Bk12 W GR 0 0 0 0 0 0 0 0 0 0 0 0 ∧ Bk3 W GO P Q R ∧ Bk3 W GW0 m0 m1 m2 ∧ RuleAt W GQ T) _ := hHeld
      obtain ⟨wD21, hwD21⟩ : ∃ wD, w21.drew = wD := ⟨_, rfl⟩
      rw [hwD21] at hHeld HR HO HN HW0 HQ ⊢
      clear hwD21
      (refine wpAnyH_take (i := 0) (v := ?_) rfl (by kernel_rfl) (by kernel_rfl) (by kernel_rfl) (fun _ _ _ h => h) (Or.inl ⟨rfl, ?_⟩) (by assumption) ?_; rotate_left; focus (intro W hSw; (try dsimp only at hSw); obtain ⟨hSb, hxR, hxO, hxW0, hxQ⟩ := hSw; obtain ⟨⟨iR0, iR1, iR2, iR3, iR4, iR5, iR6, iR7, iR8, iR9, iR10, iR11⟩, _, _⟩ := hxR; obtain ⟨⟨iO0, iO1, iO2⟩, _, _⟩ := hxO; obtain ⟨⟨iW00, iW01, iW02⟩, _, _⟩ := hxW0; obtain ⟨cQ, zQ⟩ := hxQ; go_simp; try (with_reducible rfl))); (try simp only [Act.put, List.getElem_toArray, List.getElem_cons_succ, List.getElem_cons_zero, List.setIfInBounds_toArray, List.set_cons_zero, List.set_cons_succ])
      (refine wpAnyH_take (i := 1) (v := ?_) rfl (by kernel_rfl) (by kernel_rfl) (by kernel_rfl) (fun _ _ _ h => h) (Or.inl ⟨rfl, ?_⟩) (by assumption) ?_; rotate_left; focus (intro W hSw; (try dsimp only at hSw); obtain ⟨hSb, hxR, hxO, hxW0, hxQ⟩ := hSw; obtain ⟨⟨iR0, iR1, iR2, iR3, iR4, iR5, iR6, iR7, iR8, iR9, iR10, iR11⟩, _, _⟩ := hxR; obtain ⟨⟨iO0, iO1, iO2⟩, _, _⟩ := hxO; obtain ⟨⟨iW00, iW01, iW02⟩, _, _⟩ := hxW0; obtain ⟨cQ, zQ⟩ := hxQ; go_simp; try (with_reducible rfl))); (try simp only [Act.put, List.getElem_toArray, List.getElem_cons_succ, List.getElem_cons_zero, List.setIfInBounds_toArray, List.set_cons_zero, List.set_cons_succ])
      (refine wpAnyH_take (i := 2) (v := ?_) rfl (by kernel_rfl) (by kernel_rfl) (by kernel_rfl) (fun _ _ _ h => h) (Or.inl ⟨rfl, ?_⟩) (by assumption) ?_; rotate_left; focus (intro W hSw; (try dsimp only at hSw); obtain ⟨hSb, hxR, hxO, hxW0, hxQ⟩ := hSw; obtain ⟨⟨iR0, iR1, iR2, iR3, iR4, iR5, iR6, iR7, iR8, iR9, iR10, iR11⟩, _, _⟩ := hxR; obtain ⟨⟨iO0, iO1, iO2⟩, _, _⟩ := hxO; obtain ⟨⟨iW00, iW01, iW02⟩, _, _⟩ := hxW0; obtain ⟨cQ, zQ⟩ := hxQ; go_simp; try (with_reducible rfl))); (try simp only [Act.put, List.getElem_toArray, List.getElem_cons_succ, List.getElem_cons_zero, List.setIfInBounds_toArray, List.set_cons_zero, List.set_cons_succ])
      (refine wpAnyH_take (i := 4) (v := ?_) rfl (by kernel_rfl) (by kernel_rfl) (by kernel_rfl) (fun _ _ _ h => h) (Or.inl ⟨rfl, ?_⟩) (by assumption) ?_; rotate_left; focus (intro W hSw; (try dsimp only at hSw); obtain ⟨hSb, hxR, hxO, hxW0, hxQ⟩ := hSw; obtain ⟨⟨iR0, iR1, iR2, iR3, iR4, iR5, iR6, iR7, iR8, iR9, iR10, iR11⟩, _, _⟩ := hxR; obtain ⟨⟨iO0, iO1, iO2⟩, _, _⟩ := hxO; obtain ⟨⟨iW00, iW01, iW02⟩, _, _⟩ := hxW0; obtain ⟨cQ, zQ⟩ := hxQ; go_simp; try (with_reducible rfl))); (try simp only [Act.put, List.getElem_toArray, List.getElem_cons_succ, List.getElem_cons_zero, List.setIfInBounds_toArray, List.set_cons_zero, List.set_cons_succ])
      (refine wpAnyH_take (i := 6) (v := ?_) rfl (by kernel_rfl) (by kernel_rfl) (by kernel_rfl) (fun _ _ _ h => h) (Or.inl ⟨rfl, ?_⟩) (by assumption) ?_; rotate_left; focus (intro W hSw; (try dsimp only at hSw); obtain ⟨hSb, hxR, hxO, hxW0, hxQ⟩ := hSw; obtain ⟨⟨iR0, iR1, iR2, iR3, iR4, iR5, iR6, iR7, iR8, iR9, iR10, iR11⟩, _, _⟩ := hxR; obtain ⟨⟨iO0, iO1, iO2⟩, _, _⟩ := hxO; obtain ⟨⟨iW00, iW01, iW02⟩, _, _⟩ := hxW0; obtain ⟨cQ, zQ⟩ := hxQ; go_simp; try (with_reducible rfl))); (try simp only [Act.put, List.getElem_toArray, List.getElem_cons_succ, List.getElem_cons_zero, List.setIfInBounds_toArray, List.set_cons_zero, List.set_cons_succ])
      refine wpAnyH_ready (rs := [3]) (by kernel_rfl) (by simp) ?_; refine AllReadyH.cons rfl (fun K hK => ?_) AllReadyH.nil
      go_simp; refine (HADD0.out _).mono ?_; rintro en ywr21x0 ⟨rfl, hb2⟩; have HR := Lib.hid (HR.out.below hb2); have HO := Lib.hid (HO.out.below hb2); have HN := Lib.hid (HN.out.below hb2); have HW0 := Lib.hid (HW0.out.below hb2); have HQ := Lib.hid (HQ.out.below hb2); refine hK.out _ _ ⟨below_after hb2 hHeld.1, HR.out, HO.out, HW0.out, HQ.out⟩ (fun hHeld2 => ?_); clear hb2; (clear hHeld; rename _ => hHeld; clear hK K; have hHeld : (fun W => Below w.heap.size w W ∧ Bk12 W GR 0 0 0 0 0 0 0 0 0 0 0 0 ∧ Bk3 W GO P Q R ∧ Bk3 W GW0 m0 m1 m2 ∧ RuleAt W GQ T) _ := hHeld); (try simp only [Act.put, List.getElem_toArray, List.getElem_cons_succ, List.getElem_cons_zero, List.setIfInBounds_toArray, List.set_cons_zero, List.set_cons_succ])
      refine wpAnyH_ready (rs := [5]) (by kernel_rfl) (by simp) ?_; refine AllReadyH.cons rfl (fun K hK => ?_) AllReadyH.nil
      go_simp; (go_at_call 57; refine (HIN0.out _).mono ?_; rintro en ywr21x1 ⟨rfl, hb2⟩); have HR := Lib.hid (HR.out.below hb2); have HO := Lib.hid (HO.out.below hb2); have HN := Lib.hid (HN.out.below hb2); have HW0 := Lib.hid (HW0.out.below hb2); have HQ := Lib.hid (HQ.out.below hb2); refine hK.out _ _ ⟨below_after hb2 hHeld.1, HR.out, HO.out, HW0.out, HQ.out⟩ (fun hHeld2 => ?_); clear hb2; (clear hHeld; rename _ => hHeld; clear hK K; have hHeld : (fun W => Below w.heap.size w W ∧ Bk12 W GR 0 0 0 0 0 0 0 0 0 0 0 0 ∧ Bk3 W GO P Q R ∧ Bk3 W GW0 m0 m1 m2 ∧ RuleAt W GQ T) _ := hHeld); (try simp only [Act.put, List.getElem_toArray, List.getElem_cons_succ, List.getElem_cons_zero, List.setIfInBounds_toArray, List.set_cons_zero, List.set_cons_succ])
      (refine wpAnyH_take (i := 7) (v := ?_) rfl (by kernel_rfl) (by kernel_rfl) (by kernel_rfl) (fun _ _ _ h => h) (Or.inl ⟨rfl, ?_⟩) (by assumption) ?_; rotate_left; focus (intro W hSw; (try dsimp only at hSw); obtain ⟨hSb, hxR, hxO, hxW0, hxQ⟩ := hSw; obtain ⟨⟨iR0, iR1, iR2, iR3, iR4, iR5, iR6, iR7, iR8, iR9, iR10, iR11⟩, _, _⟩ := hxR; obtain ⟨⟨iO0, iO1, iO2⟩, _, _⟩ := hxO; obtain ⟨⟨iW00, iW01, iW02⟩, _, _⟩ := hxW0; obtain ⟨cQ, zQ⟩ := hxQ; go_simp; try (with_reducible rfl))); (try simp only [Act.put, List.getElem_toArray, List.getElem_cons_succ, List.getElem_cons_zero, List.setIfInBounds_toArray, List.set_cons_zero, List.set_cons_succ])
      refine wpAnyH_ready (rs := [8]) (by kernel_rfl) (by simp) ?_; refine AllReadyH.cons rfl (fun K hK => ?_) AllReadyH.nil
      obtain ⟨⟨a0, a1, a2, a3, a4, a5, a6, a7, a8, a9, a10, a11⟩, ⟨f0, f1, f2, f3, f4, f5, f6, f7, f8, f9, f10, f11⟩, az⟩ := HN.out; go_simp; clear a0 f0 a1 f1 a2 f2 a3 f3 a4 f4 a5 f5 a6 f6 a7 f7 a8 f8 a9 f9 a10 f10 a11 f11 az
      have HR := Lib.hid (((HR.out.far ⟨GN, 3, none⟩ (.int .i64 r0) (by show GR ≠ GN; exact ne_R_N)).far ⟨GN, 4, none⟩ (.int .i64 r1) (by show GR ≠ GN; exact ne_R_N)).far ⟨GN, 5, none⟩ (.int .i64 r2) (by show GR ≠ GN; exact ne_R_N))
      have HO := Lib.hid (((HO.out.far ⟨GN, 3, none⟩ (.int .i64 r0) (by show GO ≠ GN; exact ne_O_N)).far ⟨GN, 4, none⟩ (.int .i64 r1) (by show GO ≠ GN; exact ne_O_N)).far ⟨GN, 5, none⟩ (.int .i64 r2) (by show GO ≠ GN; exact ne_O_N))
      have HW0 := Lib.hid (((HW0.out.far ⟨GN, 3, none⟩ (.int .i64 r0) (by show GW0 ≠ GN; exact ne_W0_N)).far ⟨GN, 4, none⟩ (.int .i64 r1) (by show GW0 ≠ GN; exact ne_W0_N)).far ⟨GN, 5, none⟩ (.int .i64 r2) (by show GW0 ≠ GN; exact ne_W0_N))
      have HQ := Lib.hid (((HQ.out.far ⟨GN, 3, none⟩ (.int .i64 r0) (by show GQ ≠ GN; have := le_N; omega)).far ⟨GN, 4, none⟩ (.int .i64 r1) (by show GQ ≠ GN; have := le_N; omega)).far ⟨GN, 5, none⟩ (.int .i64 r2) (by show GQ ≠ GN; have := le_N; omega))
      have HN := Lib.hid (((HN.out.set3 r0).set4 r1).set5 r2)
      refine hK.out _ _ ⟨(Below.setCell (Below.setCell (Below.setCell hHeld.1 (p := ⟨GN, 3, none⟩) le_N _) (p := ⟨GN, 4, none⟩) le_N _) (p := ⟨GN, 5, none⟩) le_N _), HR.out, HO.out, HW0.out, HQ.out⟩ (fun hHeld2 => ?_); (clear hHeld; rename _ => hHeld; clear hK K; have hHeld : (fun W => Below w.heap.size w W ∧ Bk12 W GR 0 0 0 0 0 0 0 0 0 0 0 0 ∧ Bk3 W GO P Q R ∧ Bk3 W GW0 m0 m1 m2 ∧ RuleAt W GQ T) _ := hHeld); (try simp only [Act.put, List.getElem_toArray, List.getElem_cons_succ, List.getElem_cons_zero, List.setIfInBounds_toArray, List.set_cons_zero, List.set_cons_succ])
      obtain ⟨ywr21x2, hwx⟩ : ∃ wx, ((ywr21x1.setCell ⟨GN, 3, none⟩ (.int .i64 r0)).setCell ⟨GN, 4, none⟩ (.int .i64 r1)).setCell ⟨GN, 5, none⟩ (.int .i64 r2) = wx := ⟨_, rfl⟩; rw [hwx] at HR HO HN HW0 HQ hHeld ⊢; clear hwx
      refine wpAnyH_done (by kernel_rfl) ?_ _
      have HB := Lib.hid (hHeld.1)
      clear hHeld
      obtain ⟨⟨qR0, qR1, qR2, qR3, qR4, qR5, qR6, qR7, qR8, qR9, qR10, qR11⟩, ⟨fR0, fR1, fR2, fR3, fR4, fR5, fR6, fR7, fR8, fR9, fR10, fR11⟩, zR⟩ := HR.out
      obtain ⟨⟨qO0, qO1, qO2⟩, ⟨fO0, fO1, fO2⟩, zO⟩ := HO.out
      obtain ⟨⟨qN0, qN1, qN2, qN3, qN4, qN5, qN6, qN7, qN8, qN9, qN10, qN11⟩, ⟨fN0, fN1, fN2, fN3, fN4, fN5, fN6, fN7, fN8, fN9, fN10, fN11⟩, zN⟩ := HN.out
      obtain ⟨⟨qW00, qW01, qW02⟩, ⟨fW00, fW01, fW02⟩, zW0⟩ := HW0.out
      obtain ⟨cQ, zQ⟩ := HQ.out
      go_wp2_with fail
      clear cQ zQ
      clear qR0 fR0 qR1 fR1 qR2 fR2 qR3 fR3 qR4 fR4 qR5 fR5 qR6 fR6 qR7 fR7 qR8 fR8 qR9 fR9 qR10 fR10 qR11 fR11 zR qO0 fO0 qO1 fO1 qO2 fO2 zO qN0 fN0 qN1 fN1 qN2 fN2 qN3 fN3 qN4 fN4 qN5 fN5 qN6 fN6 qN7 fN7 qN8 fN8 qN9 fN9 qN10 fN10 qN11 fN11 zN qW00 fW00 qW01 fW01 qW02 fW02 zW0
      go_roundw
      case rel => exact ⟨0 + 1, by first | rfl | go_num, by omega, HN.out, HR.out, HO.out, HQ.out, HB.out⟩
      case measure => simp only [intOf]; omega
    · rw [show ((1 : Nat) : Int) = 1 from rfl]
      have HN : Hid (Bk12 wr GN X Y Z r0 r1 r2 0 0 0 0 0 0) := HNB.out
      clear HNB
      obtain ⟨⟨qR0, qR1, qR2, qR3, qR4, qR5, qR6, qR7, qR8, qR9, qR10, qR11⟩, ⟨fR0, fR1, fR2, fR3, fR4, fR5, fR6, fR7, fR8, fR9, fR10, fR11⟩, zR⟩ := HR.out
      obtain ⟨⟨qO0, qO1, qO2⟩, ⟨fO0, fO1, fO2⟩, zO⟩ := HO.out
      obtain ⟨⟨qN0, qN1, qN2, qN3, qN4, qN5, qN6, qN7, qN8, qN9, qN10, qN11⟩, ⟨fN0, fN1, fN2, fN3, fN4, fN5, fN6, fN7, fN8, fN9, fN10, fN11⟩, zN⟩ := HN.out
      obtain ⟨cQ, zQ⟩ := HQ.out
      go_upto_region 7 with fail
      obtain ⟨GW1, hGW1⟩ : ∃ g, wr.heap.size = g := ⟨_, rfl⟩
      obtain ⟨w21, hw21⟩ : ∃ wx, wx = wr.alloc (.cells #[.int .i64 m3, .int .i64 m4, .int .i64 m5] 22) := ⟨_, rfl⟩
      rw [← hw21, hGW1]
      have HW1 : Hid (Bk3 w21 GW1 m3 m4 m5) := by rw [hw21, ← hGW1]; exact bk3_new wr m3 m4 m5 _
      have le_W1 : w.heap.size ≤ GW1 := by rw [← hGW1]; exact HB.out.size
      have ne_W1_R : GW1 ≠ GR := by have := HR.out.2.2; omega
      have ne_R_W1 : GR ≠ GW1 := Ne.symm ne_W1_R
      have ne_W1_O : GW1 ≠ GO := by have := HO.out.2.2; omega
      have ne_O_W1 : GO ≠ GW1 := Ne.symm ne_W1_O
      have ne_W1_N : GW1 ≠ GN := by have := HN.out.2.2; omega
      have ne_N_W1 : GN ≠ GW1 := Ne.symm ne_W1_N
      clear cQ zQ
      clear qR0 fR0 qR1 fR1 qR2 fR2 qR3 fR3 qR4 fR4 qR5 fR5 qR6 fR6 qR7 fR7 qR8 fR8 qR9 fR9 qR10 fR10 qR11 fR11 zR qO0 fO0 qO1 fO1 qO2 fO2 zO qN0 fN0 qN1 fN1 qN2 fN2 qN3 fN3 qN4 fN4 qN5 fN5 qN6 fN6 qN7 fN7 qN8 fN8 qN9 fN9 qN10 fN10 qN11 fN11 zN
      have HR := Lib.hid (HR.out.below ((Below.refl _ _).alloc (Nat.le_refl _) (.cells #[.int .i64 m3, .int .i64 m4, .int .i64 m5] 22)))
      have HO := Lib.hid (HO.out.below ((Below.refl _ _).alloc (Nat.le_refl _) (.cells #[.int .i64 m3, .int .i64 m4, .int .i64 m5] 22)))
      have HN := Lib.hid (HN.out.below ((Below.refl _ _).alloc (Nat.le_refl _) (.cells #[.int .i64 m3, .int .i64 m4, .int .i64 m5] 22)))
      have HQ := Lib.hid (HQ.out.below ((Below.refl _ _).alloc (Nat.le_refl _) (.cells #[.int .i64 m3, .int .i64 m4, .int .i64 m5] 22)))
      have HB := Lib.hid (Below.alloc HB.out HB.out.size (.cells #[.int .i64 m3, .int .i64 m4, .int .i64 m5] 22))
      rw [← hw21] at HR HO HN HQ HB
      clear hw21 hGW1
      go_wp2_with fail
      refine wp_region_held_drew (S := fun W => Below w.heap.size w W ∧ Bk12 W GR 0 0 0 0 0 0 0 0 0 0 0 0 ∧ Bk3 W GO P Q R ∧ Bk3 W GW1 m3 m4 m5 ∧ RuleAt W GQ T) (by kernel_rfl) ?_ (fun hHeld => ?_); focus ((try dsimp only); exact ⟨Below.drew HB.out, HR.out.below (Below.drew (Below.refl _ _)), HO.out.below (Below.drew (Below.refl _ _)), HW1.out.below (Below.drew (Below.refl _ _)), HQ.out.below (Below.drew (Below.refl _ _))⟩)
      have HR := Lib.hid (HR.out.below (Below.drew (Below.refl _ _)))
      have HO := Lib.hid (HO.out.below (Below.drew (Below.refl _ _)))
      have HN := Lib.hid (HN.out.below (Below.drew (Below.refl _ _)))
      have HW1 := Lib.hid (HW1.out.below (Below.drew (Below.refl _ _)))
      have HQ := Lib.hid (HQ.out.below (Below.drew (Below.refl _ _)))
      have hHeld : (fun W => Below w.heap.size w W ∧ Bk12 W GR 0 0 0 0 0 0 0 0 0 0 0 0 ∧ Bk3 W GO P Q R ∧ Bk3 W GW1 m3 m4 m5 ∧ RuleAt W GQ T) _ := hHeld
      obtain ⟨wD21, hwD21⟩ : ∃ wD, w21.drew = wD := ⟨_, rfl⟩
      rw [hwD21] at hHeld HR HO HN HW1 HQ ⊢
      clear hwD21
      (refine wpAnyH_take (i := 0) (v := ?_) rfl (by kernel_rfl) (by kernel_rfl) (by kernel_rfl) (fun _ _ _ h => h) (Or.inl ⟨rfl, ?_⟩) (by assumption) ?_; rotate_left; focus (intro W hSw; (try dsimp only at hSw); obtain ⟨hSb, hxR, hxO, hxW1, hxQ⟩ := hSw; obtain ⟨⟨iR0, iR1, iR2, iR3, iR4, iR5, iR6, iR7, iR8, iR9, iR10, iR11⟩, _, _⟩ := hxR; obtain ⟨⟨iO0, iO1, iO2⟩, _, _⟩ := hxO; obtain ⟨⟨iW10, iW11, iW12⟩, _, _⟩ := hxW1; obtain ⟨cQ, zQ⟩ := hxQ; go_simp; try (with_reducible rfl))); (try simp only [Act.put, List.getElem_toArray, List.getElem_cons_succ, List.getElem_cons_zero, List.setIfInBounds_toArray, List.set_cons_zero, List.set_cons_succ])
      (refine wpAnyH_take (i := 1) (v := ?_) rfl (by kernel_rfl) (by kernel_rfl) (by kernel_rfl) (fun _ _ _ h => h) (Or.inl ⟨rfl, ?_⟩) (by assumption) ?_; rotate_left; focus (intro W hSw; (try dsimp only at hSw); obtain ⟨hSb, hxR, hxO, hxW1, hxQ⟩ := hSw; obtain ⟨⟨iR0, iR1, iR2, iR3, iR4, iR5, iR6, iR7, iR8, iR9, iR10, iR11⟩, _, _⟩ := hxR; obtain ⟨⟨iO0, iO1, iO2⟩, _, _⟩ := hxO; obtain ⟨⟨iW10, iW11, iW12⟩, _, _⟩ := hxW1; obtain ⟨cQ, zQ⟩ := hxQ; go_simp; try (with_reducible rfl))); (try simp only [Act.put, List.getElem_toArray, List.getElem_cons_succ, List.getElem_cons_zero, List.setIfInBounds_toArray, List.set_cons_zero, List.set_cons_succ])
      (refine wpAnyH_take (i := 2) (v := ?_) rfl (by kernel_rfl) (by kernel_rfl) (by kernel_rfl) (fun _ _ _ h => h) (Or.inl ⟨rfl, ?_⟩) (by assumption) ?_; rotate_left; focus (intro W hSw; (try dsimp only at hSw); obtain ⟨hSb, hxR, hxO, hxW1, hxQ⟩ := hSw; obtain ⟨⟨iR0, iR1, iR2, iR3, iR4, iR5, iR6, iR7, iR8, iR9, iR10, iR11⟩, _, _⟩ := hxR; obtain ⟨⟨iO0, iO1, iO2⟩, _, _⟩ := hxO; obtain ⟨⟨iW10, iW11, iW12⟩, _, _⟩ := hxW1; obtain ⟨cQ, zQ⟩ := hxQ; go_simp; try (with_reducible rfl))); (try simp only [Act.put, List.getElem_toArray, List.getElem_cons_succ, List.getElem_cons_zero, List.setIfInBounds_toArray, List.set_cons_zero, List.set_cons_succ])
      (refine wpAnyH_take (i := 4) (v := ?_) rfl (by kernel_rfl) (by kernel_rfl) (by kernel_rfl) (fun _ _ _ h => h) (Or.inl ⟨rfl, ?_⟩) (by assumption) ?_; rotate_left; focus (intro W hSw; (try dsimp only at hSw); obtain ⟨hSb, hxR, hxO, hxW1, hxQ⟩ := hSw; obtain ⟨⟨iR0, iR1, iR2, iR3, iR4, iR5, iR6, iR7, iR8, iR9, iR10, iR11⟩, _, _⟩ := hxR; obtain ⟨⟨iO0, iO1, iO2⟩, _, _⟩ := hxO; obtain ⟨⟨iW10, iW11, iW12⟩, _, _⟩ := hxW1; obtain ⟨cQ, zQ⟩ := hxQ; go_simp; try (with_reducible rfl))); (try simp only [Act.put, List.getElem_toArray, List.getElem_cons_succ, List.getElem_cons_zero, List.setIfInBounds_toArray, List.set_cons_zero, List.set_cons_succ])
      (refine wpAnyH_take (i := 6) (v := ?_) rfl (by kernel_rfl) (by kernel_rfl) (by kernel_rfl) (fun _ _ _ h => h) (Or.inl ⟨rfl, ?_⟩) (by assumption) ?_; rotate_left; focus (intro W hSw; (try dsimp only at hSw); obtain ⟨hSb, hxR, hxO, hxW1, hxQ⟩ := hSw; obtain ⟨⟨iR0, iR1, iR2, iR3, iR4, iR5, iR6, iR7, iR8, iR9, iR10, iR11⟩, _, _⟩ := hxR; obtain ⟨⟨iO0, iO1, iO2⟩, _, _⟩ := hxO; obtain ⟨⟨iW10, iW11, iW12⟩, _, _⟩ := hxW1; obtain ⟨cQ, zQ⟩ := hxQ; go_simp; try (with_reducible rfl))); (try simp only [Act.put, List.getElem_toArray, List.getElem_cons_succ, List.getElem_cons_zero, List.setIfInBounds_toArray, List.set_cons_zero, List.set_cons_succ])
      refine wpAnyH_ready (rs := [3]) (by kernel_rfl) (by simp) ?_; refine AllReadyH.cons rfl (fun K hK => ?_) AllReadyH.nil
      go_simp; refine (HADD1.out _).mono ?_; rintro en ywr21x0 ⟨rfl, hb2⟩; have HR := Lib.hid (HR.out.below hb2); have HO := Lib.hid (HO.out.below hb2); have HN := Lib.hid (HN.out.below hb2); have HW1 := Lib.hid (HW1.out.below hb2); have HQ := Lib.hid (HQ.out.below hb2); refine hK.out _ _ ⟨below_after hb2 hHeld.1, HR.out, HO.out, HW1.out, HQ.out⟩ (fun hHeld2 => ?_); clear hb2; (clear hHeld; rename _ => hHeld; clear hK K; have hHeld : (fun W => Below w.heap.size w W ∧ Bk12 W GR 0 0 0 0 0 0 0 0 0 0 0 0 ∧ Bk3 W GO P Q R ∧ Bk3 W GW1 m3 m4 m5 ∧ RuleAt W GQ T) _ := hHeld); (try simp only [Act.put, List.getElem_toArray, List.getElem_cons_succ, List.getElem_cons_zero, List.setIfInBounds_toArray, List.set_cons_zero, List.set_cons_succ])
      refine wpAnyH_ready (rs := [5]) (by kernel_rfl) (by simp) ?_; refine AllReadyH.cons rfl (fun K hK => ?_) AllReadyH.nil
      go_simp; (go_at_call 57; refine (HIN1.out _).mono ?_; rintro en ywr21x1 ⟨rfl, hb2⟩); have HR := Lib.hid (HR.out.below hb2); have HO := Lib.hid (HO.out.below hb2); have HN := Lib.hid (HN.out.below hb2); have HW1 := Lib.hid (HW1.out.below hb2); have HQ := Lib.hid (HQ.out.below hb2); refine hK.out _ _ ⟨below_after hb2 hHeld.1, HR.out, HO.out, HW1.out, HQ.out⟩ (fun hHeld2 => ?_); clear hb2; (clear hHeld; rename _ => hHeld; clear hK K; have hHeld : (fun W => Below w.heap.size w W ∧ Bk12 W GR 0 0 0 0 0 0 0 0 0 0 0 0 ∧ Bk3 W GO P Q R ∧ Bk3 W GW1 m3 m4 m5 ∧ RuleAt W GQ T) _ := hHeld); (try simp only [Act.put, List.getElem_toArray, List.getElem_cons_succ, List.getElem_cons_zero, List.setIfInBounds_toArray, List.set_cons_zero, List.set_cons_succ])
      (refine wpAnyH_take (i := 7) (v := ?_) rfl (by kernel_rfl) (by kernel_rfl) (by kernel_rfl) (fun _ _ _ h => h) (Or.inl ⟨rfl, ?_⟩) (by assumption) ?_; rotate_left; focus (intro W hSw; (try dsimp only at hSw); obtain ⟨hSb, hxR, hxO, hxW1, hxQ⟩ := hSw; obtain ⟨⟨iR0, iR1, iR2, iR3, iR4, iR5, iR6, iR7, iR8, iR9, iR10, iR11⟩, _, _⟩ := hxR; obtain ⟨⟨iO0, iO1, iO2⟩, _, _⟩ := hxO; obtain ⟨⟨iW10, iW11, iW12⟩, _, _⟩ := hxW1; obtain ⟨cQ, zQ⟩ := hxQ; go_simp; try (with_reducible rfl))); (try simp only [Act.put, List.getElem_toArray, List.getElem_cons_succ, List.getElem_cons_zero, List.setIfInBounds_toArray, List.set_cons_zero, List.set_cons_succ])
      refine wpAnyH_ready (rs := [8]) (by kernel_rfl) (by simp) ?_; refine AllReadyH.cons rfl (fun K hK => ?_) AllReadyH.nil
      obtain ⟨⟨a0, a1, a2, a3, a4, a5, a6, a7, a8, a9, a10, a11⟩, ⟨f0, f1, f2, f3, f4, f5, f6, f7, f8, f9, f10, f11⟩, az⟩ := HN.out; go_simp; clear a0 f0 a1 f1 a2 f2 a3 f3 a4 f4 a5 f5 a6 f6 a7 f7 a8 f8 a9 f9 a10 f10 a11 f11 az
      have HR := Lib.hid (((HR.out.far ⟨GN, 6, none⟩ (.int .i64 r3) (by show GR ≠ GN; exact ne_R_N)).far ⟨GN, 7, none⟩ (.int .i64 r4) (by show GR ≠ GN; exact ne_R_N)).far ⟨GN, 8, none⟩ (.int .i64 r5) (by show GR ≠ GN; exact ne_R_N))
      have HO := Lib.hid (((HO.out.far ⟨GN, 6, none⟩ (.int .i64 r3) (by show GO ≠ GN; exact ne_O_N)).far ⟨GN, 7, none⟩ (.int .i64 r4) (by show GO ≠ GN; exact ne_O_N)).far ⟨GN, 8, none⟩ (.int .i64 r5) (by show GO ≠ GN; exact ne_O_N))
      have HW1 := Lib.hid (((HW1.out.far ⟨GN, 6, none⟩ (.int .i64 r3) (by show GW1 ≠ GN; exact ne_W1_N)).far ⟨GN, 7, none⟩ (.int .i64 r4) (by show GW1 ≠ GN; exact ne_W1_N)).far ⟨GN, 8, none⟩ (.int .i64 r5) (by show GW1 ≠ GN; exact ne_W1_N))
      have HQ := Lib.hid (((HQ.out.far ⟨GN, 6, none⟩ (.int .i64 r3) (by show GQ ≠ GN; have := le_N; omega)).far ⟨GN, 7, none⟩ (.int .i64 r4) (by show GQ ≠ GN; have := le_N; omega)).far ⟨GN, 8, none⟩ (.int .i64 r5) (by show GQ ≠ GN; have := le_N; omega))
      have HN := Lib.hid (((HN.out.set6 r3).set7 r4).set8 r5)
      refine hK.out _ _ ⟨(Below.setCell (Below.setCell (Below.setCell hHeld.1 (p := ⟨GN, 6, none⟩) le_N _) (p := ⟨GN, 7, none⟩) le_N _) (p := ⟨GN, 8, none⟩) le_N _), HR.out, HO.out, HW1.out, HQ.out⟩ (fun hHeld2 => ?_); (clear hHeld; rename _ => hHeld; clear hK K; have hHeld : (fun W => Below w.heap.size w W ∧ Bk12 W GR 0 0 0 0 0 0 0 0 0 0 0 0 ∧ Bk3 W GO P Q R ∧ Bk3 W GW1 m3 m4 m5 ∧ RuleAt W GQ T) _ := hHeld); (try simp only [Act.put, List.getElem_toArray, List.getElem_cons_succ, List.getElem_cons_zero, List.setIfInBounds_toArray, List.set_cons_zero, List.set_cons_succ])
      obtain ⟨ywr21x2, hwx⟩ : ∃ wx, ((ywr21x1.setCell ⟨GN, 6, none⟩ (.int .i64 r3)).setCell ⟨GN, 7, none⟩ (.int .i64 r4)).setCell ⟨GN, 8, none⟩ (.int .i64 r5) = wx := ⟨_, rfl⟩; rw [hwx] at HR HO HN HW1 HQ hHeld ⊢; clear hwx
      refine wpAnyH_done (by kernel_rfl) ?_ _
      have HB := Lib.hid (hHeld.1)
      clear hHeld
      obtain ⟨⟨qR0, qR1, qR2, qR3, qR4, qR5, qR6, qR7, qR8, qR9, qR10, qR11⟩, ⟨fR0, fR1, fR2, fR3, fR4, fR5, fR6, fR7, fR8, fR9, fR10, fR11⟩, zR⟩ := HR.out
      obtain ⟨⟨qO0, qO1, qO2⟩, ⟨fO0, fO1, fO2⟩, zO⟩ := HO.out
      obtain ⟨⟨qN0, qN1, qN2, qN3, qN4, qN5, qN6, qN7, qN8, qN9, qN10, qN11⟩, ⟨fN0, fN1, fN2, fN3, fN4, fN5, fN6, fN7, fN8, fN9, fN10, fN11⟩, zN⟩ := HN.out
      obtain ⟨⟨qW10, qW11, qW12⟩, ⟨fW10, fW11, fW12⟩, zW1⟩ := HW1.out
      obtain ⟨cQ, zQ⟩ := HQ.out
      go_wp2_with fail
      clear cQ zQ
      clear qR0 fR0 qR1 fR1 qR2 fR2 qR3 fR3 qR4 fR4 qR5 fR5 qR6 fR6 qR7 fR7 qR8 fR8 qR9 fR9 qR10 fR10 qR11 fR11 zR qO0 fO0 qO1 fO1 qO2 fO2 zO qN0 fN0 qN1 fN1 qN2 fN2 qN3 fN3 qN4 fN4 qN5 fN5 qN6 fN6 qN7 fN7 qN8 fN8 qN9 fN9 qN10 fN10 qN11 fN11 zN qW10 fW10 qW11 fW11 qW12 fW12 zW1
      go_roundw
      case rel => exact ⟨1 + 1, by first | rfl | go_num, by omega, HN.out, HR.out, HO.out, HQ.out, HB.out⟩
      case measure => simp only [intOf]; omega
    · rw [show ((2 : Nat) : Int) = 2 from rfl]
      have HN : Hid (Bk12 wr GN X Y Z r0 r1 r2 r3 r4 r5 0 0 0) := HNB.out
      clear HNB
      obtain ⟨⟨qR0, qR1, qR2, qR3, qR4, qR5, qR6, qR7, qR8, qR9, qR10, qR11⟩, ⟨fR0, fR1, fR2, fR3, fR4, fR5, fR6, fR7, fR8, fR9, fR10, fR11⟩, zR⟩ := HR.out
      obtain ⟨⟨qO0, qO1, qO2⟩, ⟨fO0, fO1, fO2⟩, zO⟩ := HO.out
      obtain ⟨⟨qN0, qN1, qN2, qN3, qN4, qN5, qN6, qN7, qN8, qN9, qN10, qN11⟩, ⟨fN0, fN1, fN2, fN3, fN4, fN5, fN6, fN7, fN8, fN9, fN10, fN11⟩, zN⟩ := HN.out
      obtain ⟨cQ, zQ⟩ := HQ.out
      go_upto_region 7 with fail
      obtain ⟨GW2, hGW2⟩ : ∃ g, wr.heap.size = g := ⟨_, rfl⟩
      obtain ⟨w21, hw21⟩ : ∃ wx, wx = wr.alloc (.cells #[.int .i64 m6, .int .i64 m7, .int .i64 m8] 22) := ⟨_, rfl⟩
      rw [← hw21, hGW2]
      have HW2 : Hid (Bk3 w21 GW2 m6 m7 m8) := by rw [hw21, ← hGW2]; exact bk3_new wr m6 m7 m8 _
      have le_W2 : w.heap.size ≤ GW2 := by rw [← hGW2]; exact HB.out.size
      have ne_W2_R : GW2 ≠ GR := by have := HR.out.2.2; omega
      have ne_R_W2 : GR ≠ GW2 := Ne.symm ne_W2_R
      have ne_W2_O : GW2 ≠ GO := by have := HO.out.2.2; omega
      have ne_O_W2 : GO ≠ GW2 := Ne.symm ne_W2_O
      have ne_W2_N : GW2 ≠ GN := by have := HN.out.2.2; omega
      have ne_N_W2 : GN ≠ GW2 := Ne.symm ne_W2_N
      clear cQ zQ
      clear qR0 fR0 qR1 fR1 qR2 fR2 qR3 fR3 qR4 fR4 qR5 fR5 qR6 fR6 qR7 fR7 qR8 fR8 qR9 fR9 qR10 fR10 qR11 fR11 zR qO0 fO0 qO1 fO1 qO2 fO2 zO qN0 fN0 qN1 fN1 qN2 fN2 qN3 fN3 qN4 fN4 qN5 fN5 qN6 fN6 qN7 fN7 qN8 fN8 qN9 fN9 qN10 fN10 qN11 fN11 zN
      have HR := Lib.hid (HR.out.below ((Below.refl _ _).alloc (Nat.le_refl _) (.cells #[.int .i64 m6, .int .i64 m7, .int .i64 m8] 22)))
      have HO := Lib.hid (HO.out.below ((Below.refl _ _).alloc (Nat.le_refl _) (.cells #[.int .i64 m6, .int .i64 m7, .int .i64 m8] 22)))
      have HN := Lib.hid (HN.out.below ((Below.refl _ _).alloc (Nat.le_refl _) (.cells #[.int .i64 m6, .int .i64 m7, .int .i64 m8] 22)))
      have HQ := Lib.hid (HQ.out.below ((Below.refl _ _).alloc (Nat.le_refl _) (.cells #[.int .i64 m6, .int .i64 m7, .int .i64 m8] 22)))
      have HB := Lib.hid (Below.alloc HB.out HB.out.size (.cells #[.int .i64 m6, .int .i64 m7, .int .i64 m8] 22))
      rw [← hw21] at HR HO HN HQ HB
      clear hw21 hGW2
      go_wp2_with fail
      refine wp_region_held_drew (S := fun W => Below w.heap.size w W ∧ Bk12 W GR 0 0 0 0 0 0 0 0 0 0 0 0 ∧ Bk3 W GO P Q R ∧ Bk3 W GW2 m6 m7 m8 ∧ RuleAt W GQ T) (by kernel_rfl) ?_ (fun hHeld => ?_); focus ((try dsimp only); exact ⟨Below.drew HB.out, HR.out.below (Below.drew (Below.refl _ _)), HO.out.below (Below.drew (Below.refl _ _)), HW2.out.below (Below.drew (Below.refl _ _)), HQ.out.below (Below.drew (Below.refl _ _))⟩)
      have HR := Lib.hid (HR.out.below (Below.drew (Below.refl _ _)))
      have HO := Lib.hid (HO.out.below (Below.drew (Below.refl _ _)))
      have HN := Lib.hid (HN.out.below (Below.drew (Below.refl _ _)))
      have HW2 := Lib.hid (HW2.out.below (Below.drew (Below.refl _ _)))
      have HQ := Lib.hid (HQ.out.below (Below.drew (Below.refl _ _)))
      have hHeld : (fun W => Below w.heap.size w W ∧ Bk12 W GR 0 0 0 0 0 0 0 0 0 0 0 0 ∧ Bk3 W GO P Q R ∧ Bk3 W GW2 m6 m7 m8 ∧ RuleAt W GQ T) _ := hHeld
      obtain ⟨wD21, hwD21⟩ : ∃ wD, w21.drew = wD := ⟨_, rfl⟩
      rw [hwD21] at hHeld HR HO HN HW2 HQ ⊢
      clear hwD21
      (refine wpAnyH_take (i := 0) (v := ?_) rfl (by kernel_rfl) (by kernel_rfl) (by kernel_rfl) (fun _ _ _ h => h) (Or.inl ⟨rfl, ?_⟩) (by assumption) ?_; rotate_left; focus (intro W hSw; (try dsimp only at hSw); obtain ⟨hSb, hxR, hxO, hxW2, hxQ⟩ := hSw; obtain ⟨⟨iR0, iR1, iR2, iR3, iR4, iR5, iR6, iR7, iR8, iR9, iR10, iR11⟩, _, _⟩ := hxR; obtain ⟨⟨iO0, iO1, iO2⟩, _, _⟩ := hxO; obtain ⟨⟨iW20, iW21, iW22⟩, _, _⟩ := hxW2; obtain ⟨cQ, zQ⟩ := hxQ; go_simp; try (with_reducible rfl))); (try simp only [Act.put, List.getElem_toArray, List.getElem_cons_succ, List.getElem_cons_zero, List.setIfInBounds_toArray, List.set_cons_zero, List.set_cons_succ])
      (refine wpAnyH_take (i := 1) (v := ?_) rfl (by kernel_rfl) (by kernel_rfl) (by kernel_rfl) (fun _ _ _ h => h) (Or.inl ⟨rfl, ?_⟩) (by assumption) ?_; rotate_left; focus (intro W hSw; (try dsimp only at hSw); obtain ⟨hSb, hxR, hxO, hxW2, hxQ⟩ := hSw; obtain ⟨⟨iR0, iR1, iR2, iR3, iR4, iR5, iR6, iR7, iR8, iR9, iR10, iR11⟩, _, _⟩ := hxR; obtain ⟨⟨iO0, iO1, iO2⟩, _, _⟩ := hxO; obtain ⟨⟨iW20, iW21, iW22⟩, _, _⟩ := hxW2; obtain ⟨cQ, zQ⟩ := hxQ; go_simp; try (with_reducible rfl))); (try simp only [Act.put, List.getElem_toArray, List.getElem_cons_succ, List.getElem_cons_zero, List.setIfInBounds_toArray, List.set_cons_zero, List.set_cons_succ])
      (refine wpAnyH_take (i := 2) (v := ?_) rfl (by kernel_rfl) (by kernel_rfl) (by kernel_rfl) (fun _ _ _ h => h) (Or.inl ⟨rfl, ?_⟩) (by assumption) ?_; rotate_left; focus (intro W hSw; (try dsimp only at hSw); obtain ⟨hSb, hxR, hxO, hxW2, hxQ⟩ := hSw; obtain ⟨⟨iR0, iR1, iR2, iR3, iR4, iR5, iR6, iR7, iR8, iR9, iR10, iR11⟩, _, _⟩ := hxR; obtain ⟨⟨iO0, iO1, iO2⟩, _, _⟩ := hxO; obtain ⟨⟨iW20, iW21, iW22⟩, _, _⟩ := hxW2; obtain ⟨cQ, zQ⟩ := hxQ; go_simp; try (with_reducible rfl))); (try simp only [Act.put, List.getElem_toArray, List.getElem_cons_succ, List.getElem_cons_zero, List.setIfInBounds_toArray, List.set_cons_zero, List.set_cons_succ])
      (refine wpAnyH_take (i := 4) (v := ?_) rfl (by kernel_rfl) (by kernel_rfl) (by kernel_rfl) (fun _ _ _ h => h) (Or.inl ⟨rfl, ?_⟩) (by assumption) ?_; rotate_left; focus (intro W hSw; (try dsimp only at hSw); obtain ⟨hSb, hxR, hxO, hxW2, hxQ⟩ := hSw; obtain ⟨⟨iR0, iR1, iR2, iR3, iR4, iR5, iR6, iR7, iR8, iR9, iR10, iR11⟩, _, _⟩ := hxR; obtain ⟨⟨iO0, iO1, iO2⟩, _, _⟩ := hxO; obtain ⟨⟨iW20, iW21, iW22⟩, _, _⟩ := hxW2; obtain ⟨cQ, zQ⟩ := hxQ; go_simp; try (with_reducible rfl))); (try simp only [Act.put, List.getElem_toArray, List.getElem_cons_succ, List.getElem_cons_zero, List.setIfInBounds_toArray, List.set_cons_zero, List.set_cons_succ])
      (refine wpAnyH_take (i := 6) (v := ?_) rfl (by kernel_rfl) (by kernel_rfl) (by kernel_rfl) (fun _ _ _ h => h) (Or.inl ⟨rfl, ?_⟩) (by assumption) ?_; rotate_left; focus (intro W hSw; (try dsimp only at hSw); obtain ⟨hSb, hxR, hxO, hxW2, hxQ⟩ := hSw; obtain ⟨⟨iR0, iR1, iR2, iR3, iR4, iR5, iR6, iR7, iR8, iR9, iR10, iR11⟩, _, _⟩ := hxR; obtain ⟨⟨iO0, iO1, iO2⟩, _, _⟩ := hxO; obtain ⟨⟨iW20, iW21, iW22⟩, _, _⟩ := hxW2; obtain ⟨cQ, zQ⟩ := hxQ; go_simp; try (with_reducible rfl))); (try simp only [Act.put, List.getElem_toArray, List.getElem_cons_succ, List.getElem_cons_zero, List.setIfInBounds_toArray, List.set_cons_zero, List.set_cons_succ])
      refine wpAnyH_ready (rs := [3]) (by kernel_rfl) (by simp) ?_; refine AllReadyH.cons rfl (fun K hK => ?_) AllReadyH.nil
      go_simp; refine (HADD2.out _).mono ?_; rintro en ywr21x0 ⟨rfl, hb2⟩; have HR := Lib.hid (HR.out.below hb2); have HO := Lib.hid (HO.out.below hb2); have HN := Lib.hid (HN.out.below hb2); have HW2 := Lib.hid (HW2.out.below hb2); have HQ := Lib.hid (HQ.out.below hb2); refine hK.out _ _ ⟨below_after hb2 hHeld.1, HR.out, HO.out, HW2.out, HQ.out⟩ (fun hHeld2 => ?_); clear hb2; (clear hHeld; rename _ => hHeld; clear hK K; have hHeld : (fun W => Below w.heap.size w W ∧ Bk12 W GR 0 0 0 0 0 0 0 0 0 0 0 0 ∧ Bk3 W GO P Q R ∧ Bk3 W GW2 m6 m7 m8 ∧ RuleAt W GQ T) _ := hHeld); (try simp only [Act.put, List.getElem_toArray, List.getElem_cons_succ, List.getElem_cons_zero, List.setIfInBounds_toArray, List.set_cons_zero, List.set_cons_succ])
      refine wpAnyH_ready (rs := [5]) (by kernel_rfl) (by simp) ?_; refine AllReadyH.cons rfl (fun K hK => ?_) AllReadyH.nil
      go_simp; (go_at_call 57; refine (HIN2.out _).mono ?_; rintro en ywr21x1 ⟨rfl, hb2⟩); have HR := Lib.hid (HR.out.below hb2); have HO := Lib.hid (HO.out.below hb2); have HN := Lib.hid (HN.out.below hb2); have HW2 := Lib.hid (HW2.out.below hb2); have HQ := Lib.hid (HQ.out.below hb2); refine hK.out _ _ ⟨below_after hb2 hHeld.1, HR.out, HO.out, HW2.out, HQ.out⟩ (fun hHeld2 => ?_); clear hb2; (clear hHeld; rename _ => hHeld; clear hK K; have hHeld : (fun W => Below w.heap.size w W ∧ Bk12 W GR 0 0 0 0 0 0 0 0 0 0 0 0 ∧ Bk3 W GO P Q R ∧ Bk3 W GW2 m6 m7 m8 ∧ RuleAt W GQ T) _ := hHeld); (try simp only [Act.put, List.getElem_toArray, List.getElem_cons_succ, List.getElem_cons_zero, List.setIfInBounds_toArray, List.set_cons_zero, List.set_cons_succ])
      (refine wpAnyH_take (i := 7) (v := ?_) rfl (by kernel_rfl) (by kernel_rfl) (by kernel_rfl) (fun _ _ _ h => h) (Or.inl ⟨rfl, ?_⟩) (by assumption) ?_; rotate_left; focus (intro W hSw; (try dsimp only at hSw); obtain ⟨hSb, hxR, hxO, hxW2, hxQ⟩ := hSw; obtain ⟨⟨iR0, iR1, iR2, iR3, iR4, iR5, iR6, iR7, iR8, iR9, iR10, iR11⟩, _, _⟩ := hxR; obtain ⟨⟨iO0, iO1, iO2⟩, _, _⟩ := hxO; obtain ⟨⟨iW20, iW21, iW22⟩, _, _⟩ := hxW2; obtain ⟨cQ, zQ⟩ := hxQ; go_simp; try (with_reducible rfl))); (try simp only [Act.put, List.getElem_toArray, List.getElem_cons_succ, List.getElem_cons_zero, List.setIfInBounds_toArray, List.set_cons_zero, List.set_cons_succ])
      refine wpAnyH_ready (rs := [8]) (by kernel_rfl) (by simp) ?_; refine AllReadyH.cons rfl (fun K hK => ?_) AllReadyH.nil
      obtain ⟨⟨a0, a1, a2, a3, a4, a5, a6, a7, a8, a9, a10, a11⟩, ⟨f0, f1, f2, f3, f4, f5, f6, f7, f8, f9, f10, f11⟩, az⟩ := HN.out; go_simp; clear a0 f0 a1 f1 a2 f2 a3 f3 a4 f4 a5 f5 a6 f6 a7 f7 a8 f8 a9 f9 a10 f10 a11 f11 az
      have HR := Lib.hid (((HR.out.far ⟨GN, 9, none⟩ (.int .i64 r6) (by show GR ≠ GN; exact ne_R_N)).far ⟨GN, 10, none⟩ (.int .i64 r7) (by show GR ≠ GN; exact ne_R_N)).far ⟨GN, 11, none⟩ (.int .i64 r8) (by show GR ≠ GN; exact ne_R_N))
      have HO := Lib.hid (((HO.out.far ⟨GN, 9, none⟩ (.int .i64 r6) (by show GO ≠ GN; exact ne_O_N)).far ⟨GN, 10, none⟩ (.int .i64 r7) (by show GO ≠ GN; exact ne_O_N)).far ⟨GN, 11, none⟩ (.int .i64 r8) (by show GO ≠ GN; exact ne_O_N))
      have HW2 := Lib.hid (((HW2.out.far ⟨GN, 9, none⟩ (.int .i64 r6) (by show GW2 ≠ GN; exact ne_W2_N)).far ⟨GN, 10, none⟩ (.int .i64 r7) (by show GW2 ≠ GN; exact ne_W2_N)).far ⟨GN, 11, none⟩ (.int .i64 r8) (by show GW2 ≠ GN; exact ne_W2_N))
      have HQ := Lib.hid (((HQ.out.far ⟨GN, 9, none⟩ (.int .i64 r6) (by show GQ ≠ GN; have := le_N; omega)).far ⟨GN, 10, none⟩ (.int .i64 r7) (by show GQ ≠ GN; have := le_N; omega)).far ⟨GN, 11, none⟩ (.int .i64 r8) (by show GQ ≠ GN; have := le_N; omega))
      have HN := Lib.hid (((HN.out.set9 r6).set10 r7).set11 r8)
      refine hK.out _ _ ⟨(Below.setCell (Below.setCell (Below.setCell hHeld.1 (p := ⟨GN, 9, none⟩) le_N _) (p := ⟨GN, 10, none⟩) le_N _) (p := ⟨GN, 11, none⟩) le_N _), HR.out, HO.out, HW2.out, HQ.out⟩ (fun hHeld2 => ?_); (clear hHeld; rename _ => hHeld; clear hK K; have hHeld : (fun W => Below w.heap.size w W ∧ Bk12 W GR 0 0 0 0 0 0 0 0 0 0 0 0 ∧ Bk3 W GO P Q R ∧ Bk3 W GW2 m6 m7 m8 ∧ RuleAt W GQ T) _ := hHeld); (try simp only [Act.put, List.getElem_toArray, List.getElem_cons_succ, List.getElem_cons_zero, List.setIfInBounds_toArray, List.set_cons_zero, List.set_cons_succ])
      obtain ⟨ywr21x2, hwx⟩ : ∃ wx, ((ywr21x1.setCell ⟨GN, 9, none⟩ (.int .i64 r6)).setCell ⟨GN, 10, none⟩ (.int .i64 r7)).setCell ⟨GN, 11, none⟩ (.int .i64 r8) = wx := ⟨_, rfl⟩; rw [hwx] at HR HO HN HW2 HQ hHeld ⊢; clear hwx
      refine wpAnyH_done (by kernel_rfl) ?_ _
      have HB := Lib.hid (hHeld.1)
      clear hHeld
      obtain ⟨⟨qR0, qR1, qR2, qR3, qR4, qR5, qR6, qR7, qR8, qR9, qR10, qR11⟩, ⟨fR0, fR1, fR2, fR3, fR4, fR5, fR6, fR7, fR8, fR9, fR10, fR11⟩, zR⟩ := HR.out
      obtain ⟨⟨qO0, qO1, qO2⟩, ⟨fO0, fO1, fO2⟩, zO⟩ := HO.out
      obtain ⟨⟨qN0, qN1, qN2, qN3, qN4, qN5, qN6, qN7, qN8, qN9, qN10, qN11⟩, ⟨fN0, fN1, fN2, fN3, fN4, fN5, fN6, fN7, fN8, fN9, fN10, fN11⟩, zN⟩ := HN.out
      obtain ⟨⟨qW20, qW21, qW22⟩, ⟨fW20, fW21, fW22⟩, zW2⟩ := HW2.out
      obtain ⟨cQ, zQ⟩ := HQ.out
      go_wp2_with fail
      clear cQ zQ
      clear qR0 fR0 qR1 fR1 qR2 fR2 qR3 fR3 qR4 fR4 qR5 fR5 qR6 fR6 qR7 fR7 qR8 fR8 qR9 fR9 qR10 fR10 qR11 fR11 zR qO0 fO0 qO1 fO1 qO2 fO2 zO qN0 fN0 qN1 fN1 qN2 fN2 qN3 fN3 qN4 fN4 qN5 fN5 qN6 fN6 qN7 fN7 qN8 fN8 qN9 fN9 qN10 fN10 qN11 fN11 zN qW20 fW20 qW21 fW21 qW22 fW22 zW2
      go_roundw
      case rel => exact ⟨2 + 1, by first | rfl | go_num, by omega, HN.out, HR.out, HO.out, HQ.out, HB.out⟩
      case measure => simp only [intOf]; omega
    · rw [show ((3 : Nat) : Int) = 3 from rfl]
      have HN : Hid (Bk12 wr GN X Y Z r0 r1 r2 r3 r4 r5 r6 r7 r8) := HNB.out
      clear HNB
      clear HO
      clear HQ hm2 hc2 hidx0 hidx1 hidx2 HADD0 HIN0 HADD1 HIN1 HADD2 HIN2
      obtain ⟨⟨qR0, qR1, qR2, qR3, qR4, qR5, qR6, qR7, qR8, qR9, qR10, qR11⟩, ⟨fR0, fR1, fR2, fR3, fR4, fR5, fR6, fR7, fR8, fR9, fR10, fR11⟩, zR⟩ := HR.out
      obtain ⟨⟨qN0, qN1, qN2, qN3, qN4, qN5, qN6, qN7, qN8, qN9, qN10, qN11⟩, ⟨fN0, fN1, fN2, fN3, fN4, fN5, fN6, fN7, fN8, fN9, fN10, fN11⟩, zN⟩ := HN.out
      go_wp2_with fail
      refine bodyPost_ret (v := .agg #[.int .i64 X, .int .i64 Y, .int .i64 Z, .int .i64 r0, .int .i64 r1, .int .i64 r2, .int .i64 r3, .int .i64 r4, .int .i64 r5, .int .i64 r6, .int .i64 r7, .int .i64 r8]) (by simp (maxDischargeDepth := 8) [results, Try.results96, go_sem, *]) rfl ?_
      have hb := HB.out
      exact ⟨rfl, by (repeat' (first | (with_reducible exact Below.refl _ _) | (with_reducible refine Below.alloc ?_ ?_ _) | (with_reducible refine Below.setCell ?_ ?_ _) | (with_reducible refine Below.drew ?_) | (with_reducible refine below_drewN ?_ _) | (with_reducible assumption) | (with_reducible refine below_after (by with_reducible assumption) ?_) | go_size))⟩
end Go.Proofs.Ytbgifgfegndlkaa
