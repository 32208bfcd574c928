/-
  TripleOfDigits in the program (own work).
-/
import Derived.Test.YthckbobbnkhnpaaBk1
import Derived.StillTailTactics
namespace Go.Proofs.Ythckbobbnkhnpaa
open Go.ChangeShapes Go.WideShapes Go.ChangeAt Go.RowKit
set_option linter.unusedVariables false
set_option linter.unusedSimpArgs false
set_option maxRecDepth 100000
attribute [local go_sem] Oper.semAt_some

set_option maxHeartbeats 4000000 in
theorem td_inv (a0 : Option Addr) (n cap : Nat) (vs : List Value) (xss : List (List Int)) (r0 r1 r2 : Int) (w : World) (h : RdSS w a0 n vs xss) (hm : n ≤ 1048576) (hmm : ∀ i, i < n → (xss.getD i []).length ≤ 1048576) (hT : isTr r0 r1 r2 = false) :
    Calls Try.prog 8 #[.slice a0 n cap, .agg #[.int .i64 r0, .int .i64 r1, .int .i64 r2]] w fun e w' => e = .returned (tdR xss r0 r1 r2) ∧ Below w.heap.size w w' := by
  have HA := Lib.hid h
  have HMM := Lib.hid hmm
  have HXL := Lib.hid h.2.1
  have HI := Lib.hid (fun w => impl_IsTriple_any r0 r1 r2 w)
  have HD := Lib.hid (fun w (h : RdSS w a0 n vs xss) => areDigits_any a0 n cap vs xss w h hm hmm)
  have HV := Lib.hid (tdR_inv (xss := xss) hT)
  rw [hT] at HI
  clear h hmm hT
  obtain ⟨GR, hG⟩ : ∃ G, w.heap.size = G := ⟨_, rfl⟩
  have HG := Lib.hid hG
  go_enter Try.func8, Try.ntmps8
  go_upto_region 1 with fail
  obtain ⟨w0, hw0⟩ : ∃ w0, w0 = (((w.alloc (.cells #[.int .i64 r0, .int .i64 r1, .int .i64 r2] 25)).alloc (.cells #[.int .i64 0, .int .i64 0, .int .i64 0] 25)).alloc (.cells #[.int .i64 0] 2)) := ⟨_, rfl⟩
  rw [← hw0]
  have HR : Hid (Bk3 w0 GR r0 r1 r2) := by
    have h := (bk3_new w r0 r1 r2 25).below (W' := (((w.alloc (.cells #[.int .i64 r0, .int .i64 r1, .int .i64 r2] 25)).alloc (.cells #[.int .i64 0, .int .i64 0, .int .i64 0] 25)).alloc (.cells #[.int .i64 0] 2))) (by (repeat' (first | (with_reducible exact Below.refl _ _) | (with_reducible refine Below.alloc ?_ ?_ _) | (with_reducible refine Below.setCell ?_ ?_ _) | (with_reducible refine Below.drew ?_) | (with_reducible refine below_drewN ?_ _) | (with_reducible assumption) | (with_reducible refine below_after (by with_reducible assumption) ?_) | go_size)))
    (try simp only [World.size_alloc] at h)
    rw [hG] at h
    rw [hw0]; exact h
  have HZ : Hid (Bk3 w0 (GR + 1) 0 0 0) := by
    have h := (bk3_new (w.alloc (.cells #[.int .i64 r0, .int .i64 r1, .int .i64 r2] 25)) 0 0 0 25).below (W' := (((w.alloc (.cells #[.int .i64 r0, .int .i64 r1, .int .i64 r2] 25)).alloc (.cells #[.int .i64 0, .int .i64 0, .int .i64 0] 25)).alloc (.cells #[.int .i64 0] 2))) (by (repeat' (first | (with_reducible exact Below.refl _ _) | (with_reducible refine Below.alloc ?_ ?_ _) | (with_reducible refine Below.setCell ?_ ?_ _) | (with_reducible refine Below.drew ?_) | (with_reducible refine below_drewN ?_ _) | (with_reducible assumption) | (with_reducible refine below_after (by with_reducible assumption) ?_) | go_size)))
    (try simp only [World.size_alloc] at h)
    rw [hG] at h
    rw [hw0]; exact h
  have HC : Hid (Bk1 w0 (GR + 1 + 1) 0) := by
    have h := (bk1_new ((w.alloc (.cells #[.int .i64 r0, .int .i64 r1, .int .i64 r2] 25)).alloc (.cells #[.int .i64 0, .int .i64 0, .int .i64 0] 25)) 0 2).below (W' := (((w.alloc (.cells #[.int .i64 r0, .int .i64 r1, .int .i64 r2] 25)).alloc (.cells #[.int .i64 0, .int .i64 0, .int .i64 0] 25)).alloc (.cells #[.int .i64 0] 2))) (by (repeat' (first | (with_reducible exact Below.refl _ _) | (with_reducible refine Below.alloc ?_ ?_ _) | (with_reducible refine Below.setCell ?_ ?_ _) | (with_reducible refine Below.drew ?_) | (with_reducible refine below_drewN ?_ _) | (with_reducible assumption) | (with_reducible refine below_after (by with_reducible assumption) ?_) | go_size)))
    (try simp only [World.size_alloc] at h)
    rw [hG] at h
    rw [hw0]; exact h
  have HB : Hid (Below w.heap.size w w0) := by show Below w.heap.size w w0; rw [hw0]; (repeat' (first | (with_reducible exact Below.refl _ _) | (with_reducible refine Below.alloc ?_ ?_ _) | (with_reducible refine Below.setCell ?_ ?_ _) | (with_reducible refine Below.drew ?_) | (with_reducible refine below_drewN ?_ _) | (with_reducible assumption) | (with_reducible refine below_after (by with_reducible assumption) ?_) | go_size))
  clear hw0
  obtain ⟨GC, hGC⟩ : ∃ g, GR + 1 + 1 = g := ⟨_, rfl⟩
  rw [hGC] at HC ⊢
  obtain ⟨GZ, hGZ⟩ : ∃ g, GR + 1 = g := ⟨_, rfl⟩
  rw [hGZ] at HZ ⊢
  have le_R : w.heap.size ≤ GR := by omega
  have le_Z : w.heap.size ≤ GZ := by omega
  have ne_Z_R : GZ ≠ GR := by omega
  have ne_R_Z : GR ≠ GZ := by omega
  have le_C : w.heap.size ≤ GC := by omega
  have ne_C_R : GC ≠ GR := by omega
  have ne_R_C : GR ≠ GC := by omega
  have ne_C_Z : GC ≠ GZ := by omega
  have ne_Z_C : GZ ≠ GC := by omega
  clear hGZ hGC
  obtain ⟨⟨qR0, qR1, qR2⟩, ⟨fR0, fR1, fR2⟩, zR⟩ := HR.out
  obtain ⟨⟨qZ0, qZ1, qZ2⟩, ⟨fZ0, fZ1, fZ2⟩, zZ⟩ := HZ.out
  obtain ⟨qC0, fC0, zC⟩ := HC.out
  go_wp2_with fail
  go_at_call 15
  refine (HI.out _).mono ?_
  rintro e w1 ⟨rfl, hb⟩
  clear qR0 fR0 qR1 fR1 qR2 fR2 zR qZ0 fZ0 qZ1 fZ1 qZ2 fZ2 zZ qC0 fC0 zC
  have HR := Lib.hid (HR.out.below hb)
  have HZ := Lib.hid (HZ.out.below hb)
  have HC := Lib.hid (HC.out.below hb)
  have HB := Lib.hid (below_after hb HB.out)
  clear hb
  obtain ⟨⟨qR0, qR1, qR2⟩, ⟨fR0, fR1, fR2⟩, zR⟩ := HR.out
  obtain ⟨⟨qZ0, qZ1, qZ2⟩, ⟨fZ0, fZ1, fZ2⟩, zZ⟩ := HZ.out
  obtain ⟨qC0, fC0, zC⟩ := HC.out
  go_wp2_with fail
  refine bodyPost_ret (v := .tuple #[.agg #[.int .i64 0, .int .i64 0, .int .i64 0], .int .i64 1]) (by simp (maxDischargeDepth := 8) [results, Try.results8, go_sem, *]) rfl ?_
  have hb := HB.out
  exact ⟨by rw [HV.out], by (repeat' (first | (with_reducible exact Below.refl _ _) | (with_reducible refine Below.alloc ?_ ?_ _) | (with_reducible refine Below.setCell ?_ ?_ _) | (with_reducible refine Below.drew ?_) | (with_reducible refine below_drewN ?_ _) | (with_reducible assumption) | (with_reducible refine below_after (by with_reducible assumption) ?_) | go_size))⟩
set_option maxHeartbeats 4000000 in
theorem td_rng1 (a0 : Option Addr) (n cap : Nat) (vs : List Value) (xss : List (List Int)) (r0 r1 r2 : Int) (w : World) (h : RdSS w a0 n vs xss) (hm : n ≤ 1048576) (hmm : ∀ i, i < n → (xss.getD i []).length ≤ 1048576) (hT : isTr r0 r1 r2 = true) (hr : (r0 == 0) = false) :
    Calls Try.prog 8 #[.slice a0 n cap, .agg #[.int .i64 r0, .int .i64 r1, .int .i64 r2]] w fun e w' => e = .returned (tdR xss r0 r1 r2) ∧ Below w.heap.size w w' := by
  have HA := Lib.hid h
  have HMM := Lib.hid hmm
  have HXL := Lib.hid h.2.1
  have HI := Lib.hid (fun w => impl_IsTriple_any r0 r1 r2 w)
  have HD := Lib.hid (fun w (h : RdSS w a0 n vs xss) => areDigits_any a0 n cap vs xss w h hm hmm)
  have HV := Lib.hid (tdR_rng (xss := xss) hT (by rw [hr]; rfl))
  have hr2 : ¬ r0 = 0 := by simpa using hr
  rw [hT] at HI
  clear h hmm hT hr
  obtain ⟨GR, hG⟩ : ∃ G, w.heap.size = G := ⟨_, rfl⟩
  have HG := Lib.hid hG
  go_enter Try.func8, Try.ntmps8
  go_upto_region 1 with fail
  obtain ⟨w0, hw0⟩ : ∃ w0, w0 = (((w.alloc (.cells #[.int .i64 r0, .int .i64 r1, .int .i64 r2] 25)).alloc (.cells #[.int .i64 0, .int .i64 0, .int .i64 0] 25)).alloc (.cells #[.int .i64 0] 2)) := ⟨_, rfl⟩
  rw [← hw0]
  have HR : Hid (Bk3 w0 GR r0 r1 r2) := by
    have h := (bk3_new w r0 r1 r2 25).below (W' := (((w.alloc (.cells #[.int .i64 r0, .int .i64 r1, .int .i64 r2] 25)).alloc (.cells #[.int .i64 0, .int .i64 0, .int .i64 0] 25)).alloc (.cells #[.int .i64 0] 2))) (by (repeat' (first | (with_reducible exact Below.refl _ _) | (with_reducible refine Below.alloc ?_ ?_ _) | (with_reducible refine Below.setCell ?_ ?_ _) | (with_reducible refine Below.drew ?_) | (with_reducible refine below_drewN ?_ _) | (with_reducible assumption) | (with_reducible refine below_after (by with_reducible assumption) ?_) | go_size)))
    (try simp only [World.size_alloc] at h)
    rw [hG] at h
    rw [hw0]; exact h
  have HZ : Hid (Bk3 w0 (GR + 1) 0 0 0) := by
    have h := (bk3_new (w.alloc (.cells #[.int .i64 r0, .int .i64 r1, .int .i64 r2] 25)) 0 0 0 25).below (W' := (((w.alloc (.cells #[.int .i64 r0, .int .i64 r1, .int .i64 r2] 25)).alloc (.cells #[.int .i64 0, .int .i64 0, .int .i64 0] 25)).alloc (.cells #[.int .i64 0] 2))) (by (repeat' (first | (with_reducible exact Below.refl _ _) | (with_reducible refine Below.alloc ?_ ?_ _) | (with_reducible refine Below.setCell ?_ ?_ _) | (with_reducible refine Below.drew ?_) | (with_reducible refine below_drewN ?_ _) | (with_reducible assumption) | (with_reducible refine below_after (by with_reducible assumption) ?_) | go_size)))
    (try simp only [World.size_alloc] at h)
    rw [hG] at h
    rw [hw0]; exact h
  have HC : Hid (Bk1 w0 (GR + 1 + 1) 0) := by
    have h := (bk1_new ((w.alloc (.cells #[.int .i64 r0, .int .i64 r1, .int .i64 r2] 25)).alloc (.cells #[.int .i64 0, .int .i64 0, .int .i64 0] 25)) 0 2).below (W' := (((w.alloc (.cells #[.int .i64 r0, .int .i64 r1, .int .i64 r2] 25)).alloc (.cells #[.int .i64 0, .int .i64 0, .int .i64 0] 25)).alloc (.cells #[.int .i64 0] 2))) (by (repeat' (first | (with_reducible exact Below.refl _ _) | (with_reducible refine Below.alloc ?_ ?_ _) | (with_reducible refine Below.setCell ?_ ?_ _) | (with_reducible refine Below.drew ?_) | (with_reducible refine below_drewN ?_ _) | (with_reducible assumption) | (with_reducible refine below_after (by with_reducible assumption) ?_) | go_size)))
    (try simp only [World.size_alloc] at h)
    rw [hG] at h
    rw [hw0]; exact h
  have HB : Hid (Below w.heap.size w w0) := by show Below w.heap.size w w0; rw [hw0]; (repeat' (first | (with_reducible exact Below.refl _ _) | (with_reducible refine Below.alloc ?_ ?_ _) | (with_reducible refine Below.setCell ?_ ?_ _) | (with_reducible refine Below.drew ?_) | (with_reducible refine below_drewN ?_ _) | (with_reducible assumption) | (with_reducible refine below_after (by with_reducible assumption) ?_) | go_size))
  clear hw0
  obtain ⟨GC, hGC⟩ : ∃ g, GR + 1 + 1 = g := ⟨_, rfl⟩
  rw [hGC] at HC ⊢
  obtain ⟨GZ, hGZ⟩ : ∃ g, GR + 1 = g := ⟨_, rfl⟩
  rw [hGZ] at HZ ⊢
  have le_R : w.heap.size ≤ GR := by omega
  have le_Z : w.heap.size ≤ GZ := by omega
  have ne_Z_R : GZ ≠ GR := by omega
  have ne_R_Z : GR ≠ GZ := by omega
  have le_C : w.heap.size ≤ GC := by omega
  have ne_C_R : GC ≠ GR := by omega
  have ne_R_C : GR ≠ GC := by omega
  have ne_C_Z : GC ≠ GZ := by omega
  have ne_Z_C : GZ ≠ GC := by omega
  clear hGZ hGC
  obtain ⟨⟨qR0, qR1, qR2⟩, ⟨fR0, fR1, fR2⟩, zR⟩ := HR.out
  obtain ⟨⟨qZ0, qZ1, qZ2⟩, ⟨fZ0, fZ1, fZ2⟩, zZ⟩ := HZ.out
  obtain ⟨qC0, fC0, zC⟩ := HC.out
  go_wp2_with fail
  go_at_call 15
  refine (HI.out _).mono ?_
  rintro e w1 ⟨rfl, hb⟩
  clear qR0 fR0 qR1 fR1 qR2 fR2 zR qZ0 fZ0 qZ1 fZ1 qZ2 fZ2 zZ qC0 fC0 zC
  have HR := Lib.hid (HR.out.below hb)
  have HZ := Lib.hid (HZ.out.below hb)
  have HC := Lib.hid (HC.out.below hb)
  have HB := Lib.hid (below_after hb HB.out)
  clear hb
  obtain ⟨⟨qR0, qR1, qR2⟩, ⟨fR0, fR1, fR2⟩, zR⟩ := HR.out
  obtain ⟨⟨qZ0, qZ1, qZ2⟩, ⟨fZ0, fZ1, fZ2⟩, zZ⟩ := HZ.out
  obtain ⟨qC0, fC0, zC⟩ := HC.out
  go_wp2_with fail
  refine bodyPost_ret (v := .tuple #[.agg #[.int .i64 0, .int .i64 0, .int .i64 0], .int .i64 2]) (by simp (maxDischargeDepth := 8) [results, Try.results8, go_sem, *]) rfl ?_
  have hb := HB.out
  exact ⟨by rw [HV.out], by (repeat' (first | (with_reducible exact Below.refl _ _) | (with_reducible refine Below.alloc ?_ ?_ _) | (with_reducible refine Below.setCell ?_ ?_ _) | (with_reducible refine Below.drew ?_) | (with_reducible refine below_drewN ?_ _) | (with_reducible assumption) | (with_reducible refine below_after (by with_reducible assumption) ?_) | go_size))⟩
set_option maxHeartbeats 4000000 in
theorem td_rng2 (a0 : Option Addr) (n cap : Nat) (vs : List Value) (xss : List (List Int)) (r0 r1 r2 : Int) (w : World) (h : RdSS w a0 n vs xss) (hm : n ≤ 1048576) (hmm : ∀ i, i < n → (xss.getD i []).length ≤ 1048576) (hT : isTr r0 r1 r2 = true) (hr : (r0 == 0) = true) (hD : okD xss = false) :
    Calls Try.prog 8 #[.slice a0 n cap, .agg #[.int .i64 r0, .int .i64 r1, .int .i64 r2]] w fun e w' => e = .returned (tdR xss r0 r1 r2) ∧ Below w.heap.size w w' := by
  have HA := Lib.hid h
  have HMM := Lib.hid hmm
  have HXL := Lib.hid h.2.1
  have HI := Lib.hid (fun w => impl_IsTriple_any r0 r1 r2 w)
  have HD := Lib.hid (fun w (h : RdSS w a0 n vs xss) => areDigits_any a0 n cap vs xss w h hm hmm)
  have HV := Lib.hid (tdR_rng (xss := xss) hT (by rw [hr, hD]; rfl))
  rw [hT] at HI
  rw [hD] at HD
  have hr2 : r0 = 0 := by simpa using hr
  subst hr2
  clear h hmm hT hr hD
  obtain ⟨GR, hG⟩ : ∃ G, w.heap.size = G := ⟨_, rfl⟩
  have HG := Lib.hid hG
  go_enter Try.func8, Try.ntmps8
  go_upto_region 1 with fail
  obtain ⟨w0, hw0⟩ : ∃ w0, w0 = (((w.alloc (.cells #[.int .i64 0, .int .i64 r1, .int .i64 r2] 25)).alloc (.cells #[.int .i64 0, .int .i64 0, .int .i64 0] 25)).alloc (.cells #[.int .i64 0] 2)) := ⟨_, rfl⟩
  rw [← hw0]
  have HR : Hid (Bk3 w0 GR 0 r1 r2) := by
    have h := (bk3_new w 0 r1 r2 25).below (W' := (((w.alloc (.cells #[.int .i64 0, .int .i64 r1, .int .i64 r2] 25)).alloc (.cells #[.int .i64 0, .int .i64 0, .int .i64 0] 25)).alloc (.cells #[.int .i64 0] 2))) (by (repeat' (first | (with_reducible exact Below.refl _ _) | (with_reducible refine Below.alloc ?_ ?_ _) | (with_reducible refine Below.setCell ?_ ?_ _) | (with_reducible refine Below.drew ?_) | (with_reducible refine below_drewN ?_ _) | (with_reducible assumption) | (with_reducible refine below_after (by with_reducible assumption) ?_) | go_size)))
    (try simp only [World.size_alloc] at h)
    rw [hG] at h
    rw [hw0]; exact h
  have HZ : Hid (Bk3 w0 (GR + 1) 0 0 0) := by
    have h := (bk3_new (w.alloc (.cells #[.int .i64 0, .int .i64 r1, .int .i64 r2] 25)) 0 0 0 25).below (W' := (((w.alloc (.cells #[.int .i64 0, .int .i64 r1, .int .i64 r2] 25)).alloc (.cells #[.int .i64 0, .int .i64 0, .int .i64 0] 25)).alloc (.cells #[.int .i64 0] 2))) (by (repeat' (first | (with_reducible exact Below.refl _ _) | (with_reducible refine Below.alloc ?_ ?_ _) | (with_reducible refine Below.setCell ?_ ?_ _) | (with_reducible refine Below.drew ?_) | (with_reducible refine below_drewN ?_ _) | (with_reducible assumption) | (with_reducible refine below_after (by with_reducible assumption) ?_) | go_size)))
    (try simp only [World.size_alloc] at h)
    rw [hG] at h
    rw [hw0]; exact h
  have HC : Hid (Bk1 w0 (GR + 1 + 1) 0) := by
    have h := (bk1_new ((w.alloc (.cells #[.int .i64 0, .int .i64 r1, .int .i64 r2] 25)).alloc (.cells #[.int .i64 0, .int .i64 0, .int .i64 0] 25)) 0 2).below (W' := (((w.alloc (.cells #[.int .i64 0, .int .i64 r1, .int .i64 r2] 25)).alloc (.cells #[.int .i64 0, .int .i64 0, .int .i64 0] 25)).alloc (.cells #[.int .i64 0] 2))) (by (repeat' (first | (with_reducible exact Below.refl _ _) | (with_reducible refine Below.alloc ?_ ?_ _) | (with_reducible refine Below.setCell ?_ ?_ _) | (with_reducible refine Below.drew ?_) | (with_reducible refine below_drewN ?_ _) | (with_reducible assumption) | (with_reducible refine below_after (by with_reducible assumption) ?_) | go_size)))
    (try simp only [World.size_alloc] at h)
    rw [hG] at h
    rw [hw0]; exact h
  have HB : Hid (Below w.heap.size w w0) := by show Below w.heap.size w w0; rw [hw0]; (repeat' (first | (with_reducible exact Below.refl _ _) | (with_reducible refine Below.alloc ?_ ?_ _) | (with_reducible refine Below.setCell ?_ ?_ _) | (with_reducible refine Below.drew ?_) | (with_reducible refine below_drewN ?_ _) | (with_reducible assumption) | (with_reducible refine below_after (by with_reducible assumption) ?_) | go_size))
  clear hw0
  obtain ⟨GC, hGC⟩ : ∃ g, GR + 1 + 1 = g := ⟨_, rfl⟩
  rw [hGC] at HC ⊢
  obtain ⟨GZ, hGZ⟩ : ∃ g, GR + 1 = g := ⟨_, rfl⟩
  rw [hGZ] at HZ ⊢
  have le_R : w.heap.size ≤ GR := by omega
  have le_Z : w.heap.size ≤ GZ := by omega
  have ne_Z_R : GZ ≠ GR := by omega
  have ne_R_Z : GR ≠ GZ := by omega
  have le_C : w.heap.size ≤ GC := by omega
  have ne_C_R : GC ≠ GR := by omega
  have ne_R_C : GR ≠ GC := by omega
  have ne_C_Z : GC ≠ GZ := by omega
  have ne_Z_C : GZ ≠ GC := by omega
  clear hGZ hGC
  obtain ⟨⟨qR0, qR1, qR2⟩, ⟨fR0, fR1, fR2⟩, zR⟩ := HR.out
  obtain ⟨⟨qZ0, qZ1, qZ2⟩, ⟨fZ0, fZ1, fZ2⟩, zZ⟩ := HZ.out
  obtain ⟨qC0, fC0, zC⟩ := HC.out
  go_wp2_with fail
  go_at_call 15
  refine (HI.out _).mono ?_
  rintro e w1 ⟨rfl, hb⟩
  clear qR0 fR0 qR1 fR1 qR2 fR2 zR qZ0 fZ0 qZ1 fZ1 qZ2 fZ2 zZ qC0 fC0 zC
  have HR := Lib.hid (HR.out.below hb)
  have HZ := Lib.hid (HZ.out.below hb)
  have HC := Lib.hid (HC.out.below hb)
  have HB := Lib.hid (below_after hb HB.out)
  clear hb
  obtain ⟨⟨qR0, qR1, qR2⟩, ⟨fR0, fR1, fR2⟩, zR⟩ := HR.out
  obtain ⟨⟨qZ0, qZ1, qZ2⟩, ⟨fZ0, fZ1, fZ2⟩, zZ⟩ := HZ.out
  obtain ⟨qC0, fC0, zC⟩ := HC.out
  go_wp2_with fail
  go_at_call 16
  refine (HD.out _ (HA.out.below HB.out)).mono ?_
  rintro e w9 ⟨rfl, rfl⟩
  clear qR0 fR0 qR1 fR1 qR2 fR2 zR qZ0 fZ0 qZ1 fZ1 qZ2 fZ2 zZ qC0 fC0 zC
  obtain ⟨⟨qR0, qR1, qR2⟩, ⟨fR0, fR1, fR2⟩, zR⟩ := HR.out
  obtain ⟨⟨qZ0, qZ1, qZ2⟩, ⟨fZ0, fZ1, fZ2⟩, zZ⟩ := HZ.out
  obtain ⟨qC0, fC0, zC⟩ := HC.out
  go_wp2_with fail
  refine bodyPost_ret (v := .tuple #[.agg #[.int .i64 0, .int .i64 0, .int .i64 0], .int .i64 2]) (by simp (maxDischargeDepth := 8) [results, Try.results8, go_sem, *]) rfl ?_
  have hb := HB.out
  exact ⟨by rw [HV.out], by (repeat' (first | (with_reducible exact Below.refl _ _) | (with_reducible refine Below.alloc ?_ ?_ _) | (with_reducible refine Below.setCell ?_ ?_ _) | (with_reducible refine Below.drew ?_) | (with_reducible refine below_drewN ?_ _) | (with_reducible assumption) | (with_reducible refine below_after (by with_reducible assumption) ?_) | go_size))⟩
set_option maxHeartbeats 4000000 in
theorem td_go (a0 : Option Addr) (n cap : Nat) (vs : List Value) (xss : List (List Int)) (r0 r1 r2 : Int) (w : World) (h : RdSS w a0 n vs xss) (hm : n ≤ 1048576) (hmm : ∀ i, i < n → (xss.getD i []).length ≤ 1048576) (hT : isTr r0 r1 r2 = true) (hr : (r0 == 0) = true) (hD : okD xss = true) :
    Calls Try.prog 8 #[.slice a0 n cap, .agg #[.int .i64 r0, .int .i64 r1, .int .i64 r2]] w fun e w' => e = .returned (tdR xss r0 r1 r2) ∧ Below w.heap.size w w' := by
  have HA := Lib.hid h
  have HMM := Lib.hid hmm
  have HXL := Lib.hid h.2.1
  have HI := Lib.hid (fun w => impl_IsTriple_any r0 r1 r2 w)
  have HD := Lib.hid (fun w (h : RdSS w a0 n vs xss) => areDigits_any a0 n cap vs xss w h hm hmm)
  have HV := Lib.hid (tdR_go (xss := xss) hT (by rw [hr, hD]; rfl))
  rw [hT] at HI
  have HHD := Lib.hid hD
  have HW0 : Hid ((wh 0 && wh r1 && wh r2) = true) := by
    have hr0 : r0 = 0 := by simpa using hr
    subst hr0
    show _ = true
    obtain ⟨q0, q1, q2, _⟩ := isTr_parts hT
    rw [wh_iff.2 q0, wh_iff.2 q1, wh_iff.2 q2]; rfl
  rw [hD] at HD
  have hr2 : r0 = 0 := by simpa using hr
  subst hr2
  clear h hmm hT hr hD
  obtain ⟨GR, hG⟩ : ∃ G, w.heap.size = G := ⟨_, rfl⟩
  have HG := Lib.hid hG
  refine (callsIn_wide (n := 6)).1 ?_
  refine callsIn_of_wp_marks Try.func8 rfl trivial ?_ rfl
  simp only [Try.ntmps8, List.size_toArray, List.length_cons, List.length_nil, Nat.reduceAdd, Nat.reduceSub, Array.replicate_succ, Array.replicate_zero, List.push_toArray, List.append_toArray, List.nil_append, List.cons_append]
  refine wpIn_wide.2 ?_
  go_upto_region 1 with fail
  obtain ⟨w0, hw0⟩ : ∃ w0, w0 = (((w.alloc (.cells #[.int .i64 0, .int .i64 r1, .int .i64 r2] 25)).alloc (.cells #[.int .i64 0, .int .i64 0, .int .i64 0] 25)).alloc (.cells #[.int .i64 0] 2)) := ⟨_, rfl⟩
  rw [← hw0]
  have HR : Hid (Bk3 w0 GR 0 r1 r2) := by
    have h := (bk3_new w 0 r1 r2 25).below (W' := (((w.alloc (.cells #[.int .i64 0, .int .i64 r1, .int .i64 r2] 25)).alloc (.cells #[.int .i64 0, .int .i64 0, .int .i64 0] 25)).alloc (.cells #[.int .i64 0] 2))) (by (repeat' (first | (with_reducible exact Below.refl _ _) | (with_reducible refine Below.alloc ?_ ?_ _) | (with_reducible refine Below.setCell ?_ ?_ _) | (with_reducible refine Below.drew ?_) | (with_reducible refine below_drewN ?_ _) | (with_reducible assumption) | (with_reducible refine below_after (by with_reducible assumption) ?_) | go_size)))
    (try simp only [World.size_alloc] at h)
    rw [hG] at h
    rw [hw0]; exact h
  have HZ : Hid (Bk3 w0 (GR + 1) 0 0 0) := by
    have h := (bk3_new (w.alloc (.cells #[.int .i64 0, .int .i64 r1, .int .i64 r2] 25)) 0 0 0 25).below (W' := (((w.alloc (.cells #[.int .i64 0, .int .i64 r1, .int .i64 r2] 25)).alloc (.cells #[.int .i64 0, .int .i64 0, .int .i64 0] 25)).alloc (.cells #[.int .i64 0] 2))) (by (repeat' (first | (with_reducible exact Below.refl _ _) | (with_reducible refine Below.alloc ?_ ?_ _) | (with_reducible refine Below.setCell ?_ ?_ _) | (with_reducible refine Below.drew ?_) | (with_reducible refine below_drewN ?_ _) | (with_reducible assumption) | (with_reducible refine below_after (by with_reducible assumption) ?_) | go_size)))
    (try simp only [World.size_alloc] at h)
    rw [hG] at h
    rw [hw0]; exact h
  have HC : Hid (Bk1 w0 (GR + 1 + 1) 0) := by
    have h := (bk1_new ((w.alloc (.cells #[.int .i64 0, .int .i64 r1, .int .i64 r2] 25)).alloc (.cells #[.int .i64 0, .int .i64 0, .int .i64 0] 25)) 0 2).below (W' := (((w.alloc (.cells #[.int .i64 0, .int .i64 r1, .int .i64 r2] 25)).alloc (.cells #[.int .i64 0, .int .i64 0, .int .i64 0] 25)).alloc (.cells #[.int .i64 0] 2))) (by (repeat' (first | (with_reducible exact Below.refl _ _) | (with_reducible refine Below.alloc ?_ ?_ _) | (with_reducible refine Below.setCell ?_ ?_ _) | (with_reducible refine Below.drew ?_) | (with_reducible refine below_drewN ?_ _) | (with_reducible assumption) | (with_reducible refine below_after (by with_reducible assumption) ?_) | go_size)))
    (try simp only [World.size_alloc] at h)
    rw [hG] at h
    rw [hw0]; exact h
  have HB : Hid (Below w.heap.size w w0) := by show Below w.heap.size w w0; rw [hw0]; (repeat' (first | (with_reducible exact Below.refl _ _) | (with_reducible refine Below.alloc ?_ ?_ _) | (with_reducible refine Below.setCell ?_ ?_ _) | (with_reducible refine Below.drew ?_) | (with_reducible refine below_drewN ?_ _) | (with_reducible assumption) | (with_reducible refine below_after (by with_reducible assumption) ?_) | go_size))
  clear hw0
  obtain ⟨GC, hGC⟩ : ∃ g, GR + 1 + 1 = g := ⟨_, rfl⟩
  rw [hGC] at HC ⊢
  obtain ⟨GZ, hGZ⟩ : ∃ g, GR + 1 = g := ⟨_, rfl⟩
  rw [hGZ] at HZ ⊢
  have le_R : w.heap.size ≤ GR := by omega
  have le_Z : w.heap.size ≤ GZ := by omega
  have ne_Z_R : GZ ≠ GR := by omega
  have ne_R_Z : GR ≠ GZ := by omega
  have le_C : w.heap.size ≤ GC := by omega
  have ne_C_R : GC ≠ GR := by omega
  have ne_R_C : GR ≠ GC := by omega
  have ne_C_Z : GC ≠ GZ := by omega
  have ne_Z_C : GZ ≠ GC := by omega
  clear hGZ hGC
  obtain ⟨⟨qR0, qR1, qR2⟩, ⟨fR0, fR1, fR2⟩, zR⟩ := HR.out
  obtain ⟨⟨qZ0, qZ1, qZ2⟩, ⟨fZ0, fZ1, fZ2⟩, zZ⟩ := HZ.out
  obtain ⟨qC0, fC0, zC⟩ := HC.out
  go_wp2_with fail
  go_at_call 15
  refine (HI.out _).mono ?_
  rintro e w1 ⟨rfl, hb⟩
  clear qR0 fR0 qR1 fR1 qR2 fR2 zR qZ0 fZ0 qZ1 fZ1 qZ2 fZ2 zZ qC0 fC0 zC
  have HR := Lib.hid (HR.out.below hb)
  have HZ := Lib.hid (HZ.out.below hb)
  have HC := Lib.hid (HC.out.below hb)
  have HB := Lib.hid (below_after hb HB.out)
  clear hb
  obtain ⟨⟨qR0, qR1, qR2⟩, ⟨fR0, fR1, fR2⟩, zR⟩ := HR.out
  obtain ⟨⟨qZ0, qZ1, qZ2⟩, ⟨fZ0, fZ1, fZ2⟩, zZ⟩ := HZ.out
  obtain ⟨qC0, fC0, zC⟩ := HC.out
  go_wp2_with fail
  go_at_call 16
  refine (HD.out _ (HA.out.below HB.out)).mono ?_
  rintro e w9 ⟨rfl, rfl⟩
  clear qR0 fR0 qR1 fR1 qR2 fR2 zR qZ0 fZ0 qZ1 fZ1 qZ2 fZ2 zZ qC0 fC0 zC
  obtain ⟨⟨qR0, qR1, qR2⟩, ⟨fR0, fR1, fR2⟩, zR⟩ := HR.out
  obtain ⟨⟨qZ0, qZ1, qZ2⟩, ⟨fZ0, fZ1, fZ2⟩, zZ⟩ := HZ.out
  obtain ⟨qC0, fC0, zC⟩ := HC.out
  go_upto_region 6 with fail
  obtain ⟨GT, hGT⟩ : ∃ g, w1.heap.size = g := ⟨_, rfl⟩
  obtain ⟨GK, hGK⟩ : ∃ g, GT + 1 = g := ⟨_, rfl⟩
  obtain ⟨w2, hw2⟩ : ∃ wx, wx = (w1.alloc (.cells #[.int .i64 0, .int .i64 r1, .int .i64 r2] 25)).alloc (.cells #[.int .i64 0] 2) := ⟨_, rfl⟩
  rw [← hw2, hGT, hGK]
  have b12 : Below w1.heap.size w1 w2 := by rw [hw2]; (repeat' (first | (with_reducible exact Below.refl _ _) | (with_reducible refine Below.alloc ?_ ?_ _) | (with_reducible refine Below.setCell ?_ ?_ _) | (with_reducible refine Below.drew ?_) | (with_reducible refine below_drewN ?_ _) | (with_reducible assumption) | (with_reducible refine below_after (by with_reducible assumption) ?_) | go_size))
  have HT : Hid (Bk3 w2 GT 0 r1 r2) := by
    show Bk3 _ _ _ _ _
    rw [hw2, ← hGT]; exact (bk3_new w1 0 r1 r2 _).below ((Below.refl _ _).alloc (Nat.le_refl _) _)
  have HK : Hid (Bk1 w2 GK 0) := by
    show Bk1 _ _ _
    have h := bk1_new (w1.alloc (.cells #[.int .i64 0, .int .i64 r1, .int .i64 r2] 25)) 0 2
    rw [World.size_alloc, hGT, hGK] at h
    rw [hw2]; exact h
  have le_T : w.heap.size ≤ GT := by rw [← hGT]; exact HB.out.size
  have le_K : w.heap.size ≤ GK := by omega
  have ne_K_T : GK ≠ GT := by omega
  have ne_T_K : GT ≠ GK := by omega
  have ne_T_R : GT ≠ GR := by have := HR.out.2.2; omega
  have ne_R_T : GR ≠ GT := Ne.symm ne_T_R
  have ne_K_R : GK ≠ GR := by have := HR.out.2.2; omega
  have ne_R_K : GR ≠ GK := Ne.symm ne_K_R
  have ne_T_Z : GT ≠ GZ := by have := HZ.out.2.2; omega
  have ne_Z_T : GZ ≠ GT := Ne.symm ne_T_Z
  have ne_K_Z : GK ≠ GZ := by have := HZ.out.2.2; omega
  have ne_Z_K : GZ ≠ GK := Ne.symm ne_K_Z
  have ne_T_C : GT ≠ GC := by have := HC.out.2.2; omega
  have ne_C_T : GC ≠ GT := Ne.symm ne_T_C
  have ne_K_C : GK ≠ GC := by have := HC.out.2.2; omega
  have ne_C_K : GC ≠ GK := Ne.symm ne_K_C
  clear qR0 fR0 qR1 fR1 qR2 fR2 zR qZ0 fZ0 qZ1 fZ1 qZ2 fZ2 zZ qC0 fC0 zC
  have HR := Lib.hid (HR.out.below b12)
  have HZ := Lib.hid (HZ.out.below b12)
  have HC := Lib.hid (HC.out.below b12)
  have HB := Lib.hid (below_after b12 HB.out)
  have hbw := HB.out.size
  clear b12 hw2 hGT hGK
  go_wp2_with fail
  go_at_call 17
  refine (callsIn_wide.1 (back_in Fence.wide 1 trivial rfl a0 n cap _)).mono ?_
  rintro e w3 ⟨rfl, hw3⟩
  obtain ⟨GI, hGI⟩ : ∃ g, w2.heap.size = g := ⟨_, rfl⟩
  rw [hGI]
  have b23 : Below w2.heap.size w2 w3 := by rw [hw3]; (repeat' (first | (with_reducible exact Below.refl _ _) | (with_reducible refine Below.alloc ?_ ?_ _) | (with_reducible refine Below.setCell ?_ ?_ _) | (with_reducible refine Below.drew ?_) | (with_reducible refine below_drewN ?_ _) | (with_reducible assumption) | (with_reducible refine below_after (by with_reducible assumption) ?_) | go_size))
  have hI3 : w3.cell? ⟨GI, 0, none⟩ = some (.slice a0 n cap) := by rw [hw3, ← hGI]; go_cell
  have hI4 : GI < w3.heap.size := by rw [hw3, ← hGI]; simp
  have le_I : w.heap.size ≤ GI := by omega
  have ne_I_R : GI ≠ GR := by have := HR.out.2.2; omega
  have ne_I_Z : GI ≠ GZ := by have := HZ.out.2.2; omega
  have ne_I_C : GI ≠ GC := by have := HC.out.2.2; omega
  have ne_I_T : GI ≠ GT := by have := HT.out.2.2; omega
  have ne_I_K : GI ≠ GK := by have := HK.out.2.2; omega
  have HR := Lib.hid (HR.out.below b23)
  have HZ := Lib.hid (HZ.out.below b23)
  have HC := Lib.hid (HC.out.below b23)
  have HT := Lib.hid (HT.out.below b23)
  have HK := Lib.hid (HK.out.below b23)
  have HB := Lib.hid (below_after b23 HB.out)
  have hbw3 := HB.out.size
  clear b23 hw3 hGI
  go_wp2_with fail
  refine (wpIn_wide (n := 6)).1 ?_
  refine wpIn_rangeFunc_ownG rfl (by omega) (gf := 21) (lb := #[.pointer (some ⟨GI, 0, none⟩)]) rfl trivial (enters_of Try.func21 (by kernel_rfl) rfl)
    (back_stops_of Fence.wide _ trivial rfl (by omega) GI w.heap.size n cap a0 vs (ixP (w := w) (n := n)) vxP (elP HA.out HHD.out) ?hf0 hm w3 hI4 hbw3 hI3 ?hcs) kb_t (kb_b hbw3 hI4) (Below.refl _ _) (fun _ => rfl)
    (fun pre W => (∃ a b c, stP (0, r1, r2) pre = some (a, b, c) ∧ (wh a && wh b && wh c) = true ∧ Bk3 W GT a b c ∧ Bk1 W GK 0 ∧ Bk3 W GZ 0 0 0 ∧ Bk1 W GC 0 ∧ GI < W.heap.size) ∧ Below w.heap.size w W)
    (fun c pre W => (c = .ret ∧ stP (0, r1, r2) pre = none ∧ Bk3 W GZ 0 0 0 ∧ Bk1 W GC 3) ∧ Below w.heap.size w W)
    (OwnFrom.and (Own.from (fun s A B row hs hg hr => by
      obtain ⟨a, b, c, h1, h2, h3, h4, h5, h6, h7⟩ := hs
      exact ⟨a, b, c, h1, h2, h3.own hg hr, h4.own hg hr, h5.own hg hr, h6.own hg hr, Nat.lt_of_lt_of_le h7 hg.size⟩) _) (ownFrom_below (Nat.le_refl _) hbw3))
    (fun c => OwnFrom.and (Own.from (fun s A B row hs hg hr => ⟨hs.1, hs.2.1, hs.2.2.1.own hg hr, hs.2.2.2.own hg hr⟩) _) (ownFrom_below (Nat.le_refl _) hbw3))
    ?h0
    (fun x => { tmps := #[.slice a0 n cap, .agg #[.int .i64 0, .int .i64 r1, .int .i64 r2], undef, .pointer (some ⟨GR, 0, none⟩), .pointer (some ⟨GZ, 0, none⟩), .pointer (some ⟨GC, 0, none⟩), .pointer (some ⟨GT, 0, none⟩), .pointer (some ⟨GK, 0, none⟩), undef, vxP x, .agg #[.int .i64 0, .int .i64 r1, .int .i64 r2], .bool true, .bool false, undef, .pointer (some ⟨GR, 0, none⟩), .int .i64 0, .bool false, .bool false, .slice a0 n cap, .bool true, .bool false, .bool false, undef, .agg #[.int .i64 0, .int .i64 r1, .int .i64 r2], .slice a0 n cap, .func (.func 21) #[] #[.pointer (some ⟨GI, 0, none⟩)], .int .i64 (ixP x), vxP x, undef, undef, undef, undef, undef, undef, undef, undef, undef, undef, undef, undef, undef, undef, undef, undef, undef, undef, undef, undef, undef, undef, undef, undef, undef, undef, undef, undef, undef, undef], defers := [] }) ?assign ?body ?done ?stop
  case hf0 => intro k hk; exact ⟨rfl, by show List.getD _ _ _ = _; simp [List.getD]⟩
  case hcs =>
    intro hp
    obtain ⟨b, e, hb, hc⟩ := HA.out.2.2.1 hp
    exact ⟨b, e, hb, fun j hj => by
      have := (HB.out.cell (p := ⟨b, j, none⟩) hb).trans (hc j hj)
      simpa [List.getD] using this⟩
  case h0 => exact ⟨⟨0, r1, r2, rfl, HW0.out, HT.out, HK.out, HZ.out, HC.out, hI4⟩, HB.out⟩
  case assign =>
    intro l x W K hK
    gi_wp2
    exact hK
  case body =>
    rintro l pre ⟨⟨xi, xv, xp, xq⟩, hx0⟩ W ⟨⟨a, b, c, hst, hwh, HT0, HK0, HZ0, HC0, hGI⟩, hBW⟩ hlt
    obtain ⟨hp, hq, g, cp, e, hg, c0, c1⟩ := hx0 (by omega)
    dsimp only at hp hq e c0 c1
    subst e
    have HS : Hid (stP (0, r1, r2) (pre ++ [⟨(xi, .slice (some ⟨g, 0, none⟩) 2 cp, xp, xq), hx0⟩]) = stp (some (a, b, c)) xp xq) := by
      show _ = _
      rw [stP_snoc, hst]
    have e0 : W.cell? ⟨g, 0, none⟩ = some (.int .i64 xp) := (hBW.cell (p := ⟨g, 0, none⟩) hg).trans c0
    have e1 : W.cell? ⟨g, 1, none⟩ = some (.int .i64 xq) := (hBW.cell (p := ⟨g, 1, none⟩) hg).trans c1
    obtain ⟨PX, hPX⟩ : ∃ y, pre ++ [(⟨(xi, .slice (some ⟨g, 0, none⟩) 2 cp, xp, xq), hx0⟩ : Pq w n)] = y := ⟨_, rfl⟩
    rw [hPX] at HS ⊢
    show Code.wpIn _ _ _ _ _ { tmps := #[.slice a0 n cap, .agg #[.int .i64 0, .int .i64 r1, .int .i64 r2], undef, .pointer (some ⟨GR, 0, none⟩), .pointer (some ⟨GZ, 0, none⟩), .pointer (some ⟨GC, 0, none⟩), .pointer (some ⟨GT, 0, none⟩), .pointer (some ⟨GK, 0, none⟩), undef, .slice (some ⟨g, 0, none⟩) 2 cp, .agg #[.int .i64 0, .int .i64 r1, .int .i64 r2], .bool true, .bool false, undef, .pointer (some ⟨GR, 0, none⟩), .int .i64 0, .bool false, .bool false, .slice a0 n cap, .bool true, .bool false, .bool false, undef, .agg #[.int .i64 0, .int .i64 r1, .int .i64 r2], .slice a0 n cap, .func (.func 21) #[] #[.pointer (some ⟨GI, 0, none⟩)], .int .i64 xi, .slice (some ⟨g, 0, none⟩) 2 cp, undef, undef, undef, undef, undef, undef, undef, undef, undef, undef, undef, undef, undef, undef, undef, undef, undef, undef, undef, undef, undef, undef, undef, undef, undef, undef, undef, undef, undef, undef], defers := [] } W
    have hwh0 := hwh
    simp only [Bool.and_eq_true, wh_iff] at hwh0
    obtain ⟨⟨⟨ha1, ha2⟩, hb1, hb2⟩, hc1, hc2⟩ := hwh0
    have m1 : 0 ≤ xp * c := Int.mul_nonneg hp.1 hc1
    have m2 : xp * c ≤ 1000000 * 1000000 := Int.mul_le_mul hp.2 hc2 hc1 (by omega)
    have m3 : 0 ≤ xq * c := Int.mul_nonneg hq.1 hc1
    have m4 : xq * c ≤ 1000000 * 1000000 := Int.mul_le_mul hq.2 hc2 hc1 (by omega)
    have hw1 : wrap64 (xp * c) = xp * c := IntWalk.wrap64_in _ ⟨by omega, by omega⟩
    have hw2 : wrap64 (a + xp * c) = a + xp * c := IntWalk.wrap64_in _ ⟨by omega, by omega⟩
    have hw3 : wrap64 (xq * c) = xq * c := IntWalk.wrap64_in _ ⟨by omega, by omega⟩
    have hw4 : wrap64 (b + xq * c) = b + xq * c := IntWalk.wrap64_in _ ⟨by omega, by omega⟩
    have hv1 : IntKind.i64.wrap (xp * c) = xp * c := by rw [IntKind.wrap_i64]; omega
    have hv2 : IntKind.i64.wrap (a + xp * c) = a + xp * c := by rw [IntKind.wrap_i64]; omega
    have hv3 : IntKind.i64.wrap (xq * c) = xq * c := by rw [IntKind.wrap_i64]; omega
    have hv4 : IntKind.i64.wrap (b + xq * c) = b + xq * c := by rw [IntKind.wrap_i64]; omega
    have hgd : g < W.drew.heap.size := Nat.lt_of_lt_of_le hg hBW.size
    have HL := Lib.hid (fun w => limited_any c (a + xp * c) (b + xq * c) w)
    have HT := Lib.hid HT0
    have HK := Lib.hid HK0
    have HZ := Lib.hid HZ0
    have HC := Lib.hid HC0
    have HB0 := HB
    have HB := Lib.hid hBW
    clear hst hwh HT0 HK0 HZ0 HC0 hBW c0 c1 hp hq hg hPX
    clear m1 m2 m3 m4 ha1 ha2 hb1 hb2 hc1 hc2
    cases hN : (wh c && wh (a + xp * c) && wh (b + xq * c))
    · have HF : Hid (stP (0, r1, r2) PX = none) := by show _ = _; rw [HS.out]; unfold stp; dsimp only; rw [if_neg (by rw [hN]; decide)]
      unfold lmV lmK at HL
      rw [hN] at HL
      simp only [Bool.false_eq_true, if_false] at HL
      have HNN := Lib.hid hN
      clear hN HS
      gi_wp2
      refine wpIn_region_roundT (fun i => i == 25 || i == 26) (fun W1 => Below w.heap.size w W1 ∧ Bk3 W1 GT a b c ∧ W1.cell? ⟨g, 0, none⟩ = some (.int .i64 xp) ∧ W1.cell? ⟨g, 1, none⟩ = some (.int .i64 xq)) (by kernel_rfl) (by kernel_rfl) (fun _ _ q => q) ?_ (fun hS => ?_)
      · exact ⟨Below.drew HB.out, HT.out.below (Below.drew (Below.refl _ _)), e0, e1⟩
      have HT := Lib.hid (HT.out.below (Below.drew (Below.refl _ _)))
      have HK := Lib.hid (HK.out.below (Below.drew (Below.refl _ _)))
      have HZ := Lib.hid (HZ.out.below (Below.drew (Below.refl _ _)))
      have HC := Lib.hid (HC.out.below (Below.drew (Below.refl _ _)))
      have hKO := KeepsOthers.drew W
      have hBK : Below w.heap.size W W.drew := Below.drew (Below.refl _ _)
      have hGI0 : GI < W.drew.heap.size := hGI
      have hIC : W.drew.cell? ⟨GI, 0, none⟩ = W.cell? ⟨GI, 0, none⟩ := rfl
      obtain ⟨wd, hwd⟩ : ∃ wx, W.drew = wx := ⟨_, rfl⟩
      rw [hwd] at HT HK HZ HC hS hKO hGI0 hIC hgd hBK ⊢
      clear e0 e1 hwd
      (refine wpAnyT_take (i := 0) (v := ?_) rfl (by kernel_rfl) (by kernel_rfl) (by kernel_rfl) (by kernel_rfl) (fun _ _ _ h => h) (Or.inl ⟨rfl, ?_⟩) hS (by kernel_rfl) ?_; rotate_left; focus (intro W1 hSw; (try dsimp only at hSw); obtain ⟨_, ⟨⟨s0, s1, s2⟩, _, _⟩, s3, s4⟩ := hSw; go_simp; (try simp only [hw1, hw2, hw3, hw4]); try (with_reducible rfl))); (try simp only [Act.put, List.getElem_toArray, List.getElem_cons_succ, List.getElem_cons_zero, List.setIfInBounds_toArray, List.set_cons_zero, List.set_cons_succ])
      (refine wpAnyT_take (i := 1) (v := ?_) rfl (by kernel_rfl) (by kernel_rfl) (by kernel_rfl) (by kernel_rfl) (fun _ _ _ h => h) (Or.inl ⟨rfl, ?_⟩) hS (by kernel_rfl) ?_; rotate_left; focus (intro W1 hSw; (try dsimp only at hSw); obtain ⟨_, ⟨⟨s0, s1, s2⟩, _, _⟩, s3, s4⟩ := hSw; go_simp; (try simp only [hw1, hw2, hw3, hw4]); try (with_reducible rfl))); (try simp only [Act.put, List.getElem_toArray, List.getElem_cons_succ, List.getElem_cons_zero, List.setIfInBounds_toArray, List.set_cons_zero, List.set_cons_succ])
      (refine wpAnyT_take (i := 2) (v := ?_) rfl (by kernel_rfl) (by kernel_rfl) (by kernel_rfl) (by kernel_rfl) (fun _ _ _ h => h) (Or.inl ⟨rfl, ?_⟩) hS (by kernel_rfl) ?_; rotate_left; focus (intro W1 hSw; (try dsimp only at hSw); obtain ⟨_, ⟨⟨s0, s1, s2⟩, _, _⟩, s3, s4⟩ := hSw; go_simp; (try simp only [hw1, hw2, hw3, hw4]); try (with_reducible rfl))); (try simp only [Act.put, List.getElem_toArray, List.getElem_cons_succ, List.getElem_cons_zero, List.setIfInBounds_toArray, List.set_cons_zero, List.set_cons_succ])
      (refine wpAnyT_take (i := 3) (v := ?_) rfl (by kernel_rfl) (by kernel_rfl) (by kernel_rfl) (by kernel_rfl) (fun _ _ _ h => h) (Or.inl ⟨rfl, ?_⟩) hS (by kernel_rfl) ?_; rotate_left; focus (intro W1 hSw; (try dsimp only at hSw); obtain ⟨_, ⟨⟨s0, s1, s2⟩, _, _⟩, s3, s4⟩ := hSw; go_simp; (try simp only [hw1, hw2, hw3, hw4]); try (with_reducible rfl))); (try simp only [Act.put, List.getElem_toArray, List.getElem_cons_succ, List.getElem_cons_zero, List.setIfInBounds_toArray, List.set_cons_zero, List.set_cons_succ])
      (refine wpAnyT_take (i := 4) (v := ?_) rfl (by kernel_rfl) (by kernel_rfl) (by kernel_rfl) (by kernel_rfl) (fun _ _ _ h => h) (Or.inl ⟨rfl, ?_⟩) hS (by kernel_rfl) ?_; rotate_left; focus (intro W1 hSw; (try dsimp only at hSw); obtain ⟨_, ⟨⟨s0, s1, s2⟩, _, _⟩, s3, s4⟩ := hSw; go_simp; (try simp only [hw1, hw2, hw3, hw4]); try (with_reducible rfl))); (try simp only [Act.put, List.getElem_toArray, List.getElem_cons_succ, List.getElem_cons_zero, List.setIfInBounds_toArray, List.set_cons_zero, List.set_cons_succ])
      (refine wpAnyT_take (i := 5) (v := ?_) rfl (by kernel_rfl) (by kernel_rfl) (by kernel_rfl) (by kernel_rfl) (fun _ _ _ h => h) (Or.inl ⟨rfl, ?_⟩) hS (by kernel_rfl) ?_; rotate_left; focus (intro W1 hSw; (try dsimp only at hSw); obtain ⟨_, ⟨⟨s0, s1, s2⟩, _, _⟩, s3, s4⟩ := hSw; go_simp; (try simp only [hw1, hw2, hw3, hw4]); try (with_reducible rfl))); (try simp only [Act.put, List.getElem_toArray, List.getElem_cons_succ, List.getElem_cons_zero, List.setIfInBounds_toArray, List.set_cons_zero, List.set_cons_succ])
      (refine wpAnyT_take (i := 6) (v := ?_) rfl (by kernel_rfl) (by kernel_rfl) (by kernel_rfl) (by kernel_rfl) (fun _ _ _ h => h) (Or.inl ⟨rfl, ?_⟩) hS (by kernel_rfl) ?_; rotate_left; focus (intro W1 hSw; (try dsimp only at hSw); obtain ⟨_, ⟨⟨s0, s1, s2⟩, _, _⟩, s3, s4⟩ := hSw; go_simp; (try simp only [hw1, hw2, hw3, hw4]); try (with_reducible rfl))); (try simp only [Act.put, List.getElem_toArray, List.getElem_cons_succ, List.getElem_cons_zero, List.setIfInBounds_toArray, List.set_cons_zero, List.set_cons_succ])
      (refine wpAnyT_take (i := 7) (v := ?_) rfl (by kernel_rfl) (by kernel_rfl) (by kernel_rfl) (by kernel_rfl) (fun _ _ _ h => h) (Or.inl ⟨rfl, ?_⟩) hS (by kernel_rfl) ?_; rotate_left; focus (intro W1 hSw; (try dsimp only at hSw); obtain ⟨_, ⟨⟨s0, s1, s2⟩, _, _⟩, s3, s4⟩ := hSw; go_simp; (try simp only [hw1, hw2, hw3, hw4]); try (with_reducible rfl))); (try simp only [Act.put, List.getElem_toArray, List.getElem_cons_succ, List.getElem_cons_zero, List.setIfInBounds_toArray, List.set_cons_zero, List.set_cons_succ])
      (refine wpAnyT_take (i := 8) (v := ?_) rfl (by kernel_rfl) (by kernel_rfl) (by kernel_rfl) (by kernel_rfl) (fun _ _ _ h => h) (Or.inl ⟨rfl, ?_⟩) hS (by kernel_rfl) ?_; rotate_left; focus (intro W1 hSw; (try dsimp only at hSw); obtain ⟨_, ⟨⟨s0, s1, s2⟩, _, _⟩, s3, s4⟩ := hSw; go_simp; (try simp only [hw1, hw2, hw3, hw4]); try (with_reducible rfl))); (try simp only [Act.put, List.getElem_toArray, List.getElem_cons_succ, List.getElem_cons_zero, List.setIfInBounds_toArray, List.set_cons_zero, List.set_cons_succ])
      (refine wpAnyT_take (i := 9) (v := ?_) rfl (by kernel_rfl) (by kernel_rfl) (by kernel_rfl) (by kernel_rfl) (fun _ _ _ h => h) (Or.inl ⟨rfl, ?_⟩) hS (by kernel_rfl) ?_; rotate_left; focus (intro W1 hSw; (try dsimp only at hSw); obtain ⟨_, ⟨⟨s0, s1, s2⟩, _, _⟩, s3, s4⟩ := hSw; go_simp; (try simp only [hw1, hw2, hw3, hw4]); try (with_reducible rfl))); (try simp only [Act.put, List.getElem_toArray, List.getElem_cons_succ, List.getElem_cons_zero, List.setIfInBounds_toArray, List.set_cons_zero, List.set_cons_succ])
      (refine wpAnyT_take (i := 10) (v := ?_) rfl (by kernel_rfl) (by kernel_rfl) (by kernel_rfl) (by kernel_rfl) (fun _ _ _ h => h) (Or.inl ⟨rfl, ?_⟩) hS (by kernel_rfl) ?_; rotate_left; focus (intro W1 hSw; (try dsimp only at hSw); obtain ⟨_, ⟨⟨s0, s1, s2⟩, _, _⟩, s3, s4⟩ := hSw; go_simp; (try simp only [hw1, hw2, hw3, hw4]); try (with_reducible rfl))); (try simp only [Act.put, List.getElem_toArray, List.getElem_cons_succ, List.getElem_cons_zero, List.setIfInBounds_toArray, List.set_cons_zero, List.set_cons_succ])
      (refine wpAnyT_take (i := 11) (v := ?_) rfl (by kernel_rfl) (by kernel_rfl) (by kernel_rfl) (by kernel_rfl) (fun _ _ _ h => h) (Or.inl ⟨rfl, ?_⟩) hS (by kernel_rfl) ?_; rotate_left; focus (intro W1 hSw; (try dsimp only at hSw); obtain ⟨_, ⟨⟨s0, s1, s2⟩, _, _⟩, s3, s4⟩ := hSw; go_simp; (try simp only [hw1, hw2, hw3, hw4]); try (with_reducible rfl))); (try simp only [Act.put, List.getElem_toArray, List.getElem_cons_succ, List.getElem_cons_zero, List.setIfInBounds_toArray, List.set_cons_zero, List.set_cons_succ])
      (refine wpAnyT_take (i := 12) (v := ?_) rfl (by kernel_rfl) (by kernel_rfl) (by kernel_rfl) (by kernel_rfl) (fun _ _ _ h => h) (Or.inl ⟨rfl, ?_⟩) hS (by kernel_rfl) ?_; rotate_left; focus (intro W1 hSw; (try dsimp only at hSw); obtain ⟨_, ⟨⟨s0, s1, s2⟩, _, _⟩, s3, s4⟩ := hSw; go_simp; (try simp only [hw1, hw2, hw3, hw4]); try (with_reducible rfl))); (try simp only [Act.put, List.getElem_toArray, List.getElem_cons_succ, List.getElem_cons_zero, List.setIfInBounds_toArray, List.set_cons_zero, List.set_cons_succ])
      (refine wpAnyT_take (i := 13) (v := ?_) rfl (by kernel_rfl) (by kernel_rfl) (by kernel_rfl) (by kernel_rfl) (fun _ _ _ h => h) (Or.inl ⟨rfl, ?_⟩) hS (by kernel_rfl) ?_; rotate_left; focus (intro W1 hSw; (try dsimp only at hSw); obtain ⟨_, ⟨⟨s0, s1, s2⟩, _, _⟩, s3, s4⟩ := hSw; go_simp; (try simp only [hw1, hw2, hw3, hw4]); try (with_reducible rfl))); (try simp only [Act.put, List.getElem_toArray, List.getElem_cons_succ, List.getElem_cons_zero, List.setIfInBounds_toArray, List.set_cons_zero, List.set_cons_succ])
      (refine wpAnyT_take (i := 14) (v := ?_) rfl (by kernel_rfl) (by kernel_rfl) (by kernel_rfl) (by kernel_rfl) (fun _ _ _ h => h) (Or.inl ⟨rfl, ?_⟩) hS (by kernel_rfl) ?_; rotate_left; focus (intro W1 hSw; (try dsimp only at hSw); obtain ⟨_, ⟨⟨s0, s1, s2⟩, _, _⟩, s3, s4⟩ := hSw; go_simp; (try simp only [hw1, hw2, hw3, hw4]); try (with_reducible rfl))); (try simp only [Act.put, List.getElem_toArray, List.getElem_cons_succ, List.getElem_cons_zero, List.setIfInBounds_toArray, List.set_cons_zero, List.set_cons_succ])
      (refine wpAnyT_take (i := 15) (v := ?_) rfl (by kernel_rfl) (by kernel_rfl) (by kernel_rfl) (by kernel_rfl) (fun _ _ _ h => h) (Or.inl ⟨rfl, ?_⟩) hS (by kernel_rfl) ?_; rotate_left; focus (intro W1 hSw; (try dsimp only at hSw); obtain ⟨_, ⟨⟨s0, s1, s2⟩, _, _⟩, s3, s4⟩ := hSw; go_simp; (try simp only [hw1, hw2, hw3, hw4]); try (with_reducible rfl))); (try simp only [Act.put, List.getElem_toArray, List.getElem_cons_succ, List.getElem_cons_zero, List.setIfInBounds_toArray, List.set_cons_zero, List.set_cons_succ])
      (refine wpAnyT_take (i := 16) (v := ?_) rfl (by kernel_rfl) (by kernel_rfl) (by kernel_rfl) (by kernel_rfl) (fun _ _ _ h => h) (Or.inl ⟨rfl, ?_⟩) hS (by kernel_rfl) ?_; rotate_left; focus (intro W1 hSw; (try dsimp only at hSw); obtain ⟨_, ⟨⟨s0, s1, s2⟩, _, _⟩, s3, s4⟩ := hSw; go_simp; (try simp only [hw1, hw2, hw3, hw4]); try (with_reducible rfl))); (try simp only [Act.put, List.getElem_toArray, List.getElem_cons_succ, List.getElem_cons_zero, List.setIfInBounds_toArray, List.set_cons_zero, List.set_cons_succ])
      (refine wpAnyT_take (i := 17) (v := ?_) rfl (by kernel_rfl) (by kernel_rfl) (by kernel_rfl) (by kernel_rfl) (fun _ _ _ h => h) (Or.inl ⟨rfl, ?_⟩) hS (by kernel_rfl) ?_; rotate_left; focus (intro W1 hSw; (try dsimp only at hSw); obtain ⟨_, ⟨⟨s0, s1, s2⟩, _, _⟩, s3, s4⟩ := hSw; go_simp; (try simp only [hw1, hw2, hw3, hw4]); try (with_reducible rfl))); (try simp only [Act.put, List.getElem_toArray, List.getElem_cons_succ, List.getElem_cons_zero, List.setIfInBounds_toArray, List.set_cons_zero, List.set_cons_succ])
      (refine wpAnyT_take (i := 18) (v := ?_) rfl (by kernel_rfl) (by kernel_rfl) (by kernel_rfl) (by kernel_rfl) (fun _ _ _ h => h) (Or.inl ⟨rfl, ?_⟩) hS (by kernel_rfl) ?_; rotate_left; focus (intro W1 hSw; (try dsimp only at hSw); obtain ⟨_, ⟨⟨s0, s1, s2⟩, _, _⟩, s3, s4⟩ := hSw; go_simp; (try simp only [hw1, hw2, hw3, hw4]); try (with_reducible rfl))); (try simp only [Act.put, List.getElem_toArray, List.getElem_cons_succ, List.getElem_cons_zero, List.setIfInBounds_toArray, List.set_cons_zero, List.set_cons_succ])
      (refine wpAnyT_take (i := 19) (v := ?_) rfl (by kernel_rfl) (by kernel_rfl) (by kernel_rfl) (by kernel_rfl) (fun _ _ _ h => h) (Or.inl ⟨rfl, ?_⟩) hS (by kernel_rfl) ?_; rotate_left; focus (intro W1 hSw; (try dsimp only at hSw); obtain ⟨_, ⟨⟨s0, s1, s2⟩, _, _⟩, s3, s4⟩ := hSw; go_simp; (try simp only [hw1, hw2, hw3, hw4]); try (with_reducible rfl))); (try simp only [Act.put, List.getElem_toArray, List.getElem_cons_succ, List.getElem_cons_zero, List.setIfInBounds_toArray, List.set_cons_zero, List.set_cons_succ])
      (refine wpAnyT_take (i := 20) (v := ?_) rfl (by kernel_rfl) (by kernel_rfl) (by kernel_rfl) (by kernel_rfl) (fun _ _ _ h => h) (Or.inl ⟨rfl, ?_⟩) hS (by kernel_rfl) ?_; rotate_left; focus (intro W1 hSw; (try dsimp only at hSw); obtain ⟨_, ⟨⟨s0, s1, s2⟩, _, _⟩, s3, s4⟩ := hSw; go_simp; (try simp only [hw1, hw2, hw3, hw4]); try (with_reducible rfl))); (try simp only [Act.put, List.getElem_toArray, List.getElem_cons_succ, List.getElem_cons_zero, List.setIfInBounds_toArray, List.set_cons_zero, List.set_cons_succ])
      refine wpAnyT_one (i := 21) (by kernel_rfl) rfl (fun K hK => ?_)
      go_simp
      (try rw [hv1, hv2, hv3, hv4])
      go_at_call 18
      refine (HL.out _).mono ?_
      rintro e w4 ⟨rfl, hb⟩
      have hBK := hBK.trans (hb.mono hS.1.size)
      have hS := (⟨below_after hb hS.1, hS.2.1.below hb, (bcell hb).1 _ _ hgd |>.trans hS.2.2.1, (bcell hb).1 _ _ hgd |>.trans hS.2.2.2⟩ : (fun W1 => Below w.heap.size w W1 ∧ Bk3 W1 GT a b c ∧ W1.cell? ⟨g, 0, none⟩ = some (.int .i64 xp) ∧ W1.cell? ⟨g, 1, none⟩ = some (.int .i64 xq)) w4)
      have hKO := hKO.trans (keepsOthers_of_below hb)
      have hIC := ((bcell hb).1 _ _ hGI0).trans hIC
      have hGI0 := Nat.lt_of_lt_of_le hGI0 hb.size
      have HT := Lib.hid (HT.out.below hb)
      have HK := Lib.hid (HK.out.below hb)
      have HZ := Lib.hid (HZ.out.below hb)
      have HC := Lib.hid (HC.out.below hb)
      have HB := Lib.hid hS.1
      clear hb
      refine hK _ _ (fun _ _ => hS) ?_
      clear hK K
      (try simp only [Act.put, List.getElem_toArray, List.getElem_cons_succ, List.getElem_cons_zero, List.setIfInBounds_toArray, List.set_cons_zero, List.set_cons_succ])
      (refine wpAnyT_take (i := 22) (v := ?_) rfl (by kernel_rfl) (by kernel_rfl) (by kernel_rfl) (by kernel_rfl) (fun _ _ _ h => h) (Or.inl ⟨rfl, ?_⟩) hS (by kernel_rfl) ?_; rotate_left; focus (intro W1 hSw; (try dsimp only at hSw); obtain ⟨_, ⟨⟨s0, s1, s2⟩, _, _⟩, s3, s4⟩ := hSw; go_simp; (try simp only [hw1, hw2, hw3, hw4]); try (with_reducible rfl))); (try simp only [Act.put, List.getElem_toArray, List.getElem_cons_succ, List.getElem_cons_zero, List.setIfInBounds_toArray, List.set_cons_zero, List.set_cons_succ])
      (refine wpAnyT_take (i := 23) (v := ?_) rfl (by kernel_rfl) (by kernel_rfl) (by kernel_rfl) (by kernel_rfl) (fun _ _ _ h => h) (Or.inl ⟨rfl, ?_⟩) hS (by kernel_rfl) ?_; rotate_left; focus (intro W1 hSw; (try dsimp only at hSw); obtain ⟨_, ⟨⟨s0, s1, s2⟩, _, _⟩, s3, s4⟩ := hSw; go_simp; (try simp only [hw1, hw2, hw3, hw4]); try (with_reducible rfl))); (try simp only [Act.put, List.getElem_toArray, List.getElem_cons_succ, List.getElem_cons_zero, List.setIfInBounds_toArray, List.set_cons_zero, List.set_cons_succ])
      (refine wpAnyT_pure (i := 24) (v := ?_) rfl (by kernel_rfl) (by kernel_rfl) (by kernel_rfl) (by kernel_rfl) (fun _ _ _ h => h) (Or.inl ⟨rfl, ?_⟩) hS (by kernel_rfl) ?_; rotate_left; focus (intro W1 hSw; go_simp; try (with_reducible rfl))); (try simp only [Act.put, List.getElem_toArray, List.getElem_cons_succ, List.getElem_cons_zero, List.setIfInBounds_toArray, List.set_cons_zero, List.set_cons_succ])
      clear hS
      refine wpAnyT_one (i := 25) (by kernel_rfl) rfl (fun K hK => ?_)
      obtain ⟨⟨a0x, a1x, a2x⟩, ⟨f0x, f1x, f2x⟩, az⟩ := HT.out
      go_simp
      clear a0x a1x a2x f0x f1x f2x az
      refine hK _ _ (fun e => by cases e) ?_
      clear hK K
      (try simp only [Act.put, List.getElem_toArray, List.getElem_cons_succ, List.getElem_cons_zero, List.setIfInBounds_toArray, List.set_cons_zero, List.set_cons_succ])
      obtain ⟨w5, hw5⟩ : ∃ wx, wx = ((w4.setCell ⟨GT, 0, none⟩ (.int .i64 0)).setCell ⟨GT, 1, none⟩ (.int .i64 0)).setCell ⟨GT, 2, none⟩ (.int .i64 0) := ⟨_, rfl⟩
      rw [← hw5]
      have HK := Lib.hid (((HK.out.far ⟨GT, 0, none⟩ (.int .i64 0) (by show GK ≠ GT; exact ne_K_T)).far ⟨GT, 1, none⟩ (.int .i64 0) (by show GK ≠ GT; exact ne_K_T)).far ⟨GT, 2, none⟩ (.int .i64 0) (by show GK ≠ GT; exact ne_K_T))
      have HZ := Lib.hid (((HZ.out.far ⟨GT, 0, none⟩ (.int .i64 0) (by show GZ ≠ GT; exact ne_Z_T)).far ⟨GT, 1, none⟩ (.int .i64 0) (by show GZ ≠ GT; exact ne_Z_T)).far ⟨GT, 2, none⟩ (.int .i64 0) (by show GZ ≠ GT; exact ne_Z_T))
      have HC := Lib.hid (((HC.out.far ⟨GT, 0, none⟩ (.int .i64 0) (by show GC ≠ GT; exact ne_C_T)).far ⟨GT, 1, none⟩ (.int .i64 0) (by show GC ≠ GT; exact ne_C_T)).far ⟨GT, 2, none⟩ (.int .i64 0) (by show GC ≠ GT; exact ne_C_T))
      have HT := Lib.hid (((HT.out.set0 0).set1 0).set2 0)
      have HB := Lib.hid (Below.setCell (Below.setCell (Below.setCell HB.out (p := ⟨GT, 0, none⟩) le_T (.int .i64 0)) (p := ⟨GT, 1, none⟩) le_T (.int .i64 0)) (p := ⟨GT, 2, none⟩) le_T (.int .i64 0))
      have hKO := hKO.trans (((KeepsOthers.setCell w4 _ _).trans (KeepsOthers.setCell _ _ _)).trans (KeepsOthers.setCell _ _ _) : KeepsOthers w4 (((w4.setCell ⟨GT, 0, none⟩ (.int .i64 0)).setCell ⟨GT, 1, none⟩ (.int .i64 0)).setCell ⟨GT, 2, none⟩ (.int .i64 0)))
      have hBK : Below w.heap.size W w5 := by rw [hw5]; exact ((hBK.setCell (p := ⟨GT, 0, none⟩) le_T _).setCell (p := ⟨GT, 1, none⟩) le_T _).setCell (p := ⟨GT, 2, none⟩) le_T _
      rw [← hw5] at HT HK HZ HC HB hKO
      have hIC : w5.cell? ⟨GI, 0, none⟩ = W.cell? ⟨GI, 0, none⟩ := by
        rw [hw5, World.cell?_setCell_far _ _ _ _ (Ne.symm ne_I_T), World.cell?_setCell_far _ _ _ _ (Ne.symm ne_I_T), World.cell?_setCell_far _ _ _ _ (Ne.symm ne_I_T)]; exact hIC
      have hGI0 : GI < w5.heap.size := by rw [hw5]; simpa using hGI0
      clear hw5
      refine wpAnyT_one (i := 26) (by kernel_rfl) rfl (fun K hK => ?_)
      obtain ⟨a0x, f0x, az⟩ := HK.out
      go_simp
      clear a0x f0x az
      refine hK _ _ (fun e => by cases e) ?_
      clear hK K
      (try simp only [Act.put, List.getElem_toArray, List.getElem_cons_succ, List.getElem_cons_zero, List.setIfInBounds_toArray, List.set_cons_zero, List.set_cons_succ])
      obtain ⟨w6, hw6⟩ : ∃ wx, wx = w5.setCell ⟨GK, 0, none⟩ (.int .i64 3) := ⟨_, rfl⟩
      rw [← hw6]
      have HT := Lib.hid (HT.out.far ⟨GK, 0, none⟩ (.int .i64 3) (by show GT ≠ GK; exact ne_T_K))
      have HZ := Lib.hid (HZ.out.far ⟨GK, 0, none⟩ (.int .i64 3) (by show GZ ≠ GK; exact ne_Z_K))
      have HC := Lib.hid (HC.out.far ⟨GK, 0, none⟩ (.int .i64 3) (by show GC ≠ GK; exact ne_C_K))
      have HK := Lib.hid (HK.out.set0 3)
      have HB := Lib.hid (Below.setCell HB.out (p := ⟨GK, 0, none⟩) le_K (.int .i64 3))
      have hKO := hKO.trans (KeepsOthers.setCell w5 ⟨GK, 0, none⟩ (.int .i64 3))
      have hIC : w6.cell? ⟨GI, 0, none⟩ = W.cell? ⟨GI, 0, none⟩ := by
        rw [hw6, World.cell?_setCell_far _ _ _ _ (Ne.symm ne_I_K)]; exact hIC
      have hBK : Below w.heap.size W w6 := by rw [hw6]; exact hBK.setCell (p := ⟨GK, 0, none⟩) le_K _
      rw [← hw6] at HT HK HZ HC HB hKO
      have hGI0 : GI < w6.heap.size := by rw [hw6]; simpa using hGI0
      clear hw6
      refine wpAnyT_done (by kernel_rfl) ?_ _
      obtain ⟨⟨qT0, qT1, qT2⟩, ⟨fT0, fT1, fT2⟩, zT⟩ := HT.out
      obtain ⟨qK0, fK0, zK⟩ := HK.out
      obtain ⟨⟨qZ0, qZ1, qZ2⟩, ⟨fZ0, fZ1, fZ2⟩, zZ⟩ := HZ.out
      obtain ⟨qC0, fC0, zC⟩ := HC.out
      gi_wp2
      clear qT0 fT0 qT1 fT1 qT2 fT2 zT qK0 fK0 zK qZ0 fZ0 qZ1 fZ1 qZ2 fZ2 zZ qC0 fC0 zC
      refine wpIn_region_roundT (fun _ => false) (fun W1 => W1.cell? ⟨GK, 0, none⟩ = some (.int .i64 3)) (by kernel_rfl) (by kernel_rfl) (fun _ _ q => q) ?_ (fun hS => ?_)
      · exact HK.out.1
      have HK := Lib.hid (HK.out.below (Below.drew (Below.refl _ _)))
      have HZ := Lib.hid (HZ.out.below (Below.drew (Below.refl _ _)))
      have HC := Lib.hid (HC.out.below (Below.drew (Below.refl _ _)))
      have HB := Lib.hid (Below.drew HB.out)
      have hKO := hKO.trans (KeepsOthers.drew w6)
      clear hIC hGI0 HT hBK
      obtain ⟨wd, hwd⟩ : ∃ wx, w6.drew = wx := ⟨_, rfl⟩
      rw [hwd] at HK HZ HC HB hS hKO ⊢
      clear hwd
      (refine wpAnyT_take (i := 0) (v := ?_) rfl (by kernel_rfl) (by kernel_rfl) (by kernel_rfl) (by kernel_rfl) (fun _ _ _ h => h) (Or.inl ⟨rfl, ?_⟩) hS (by kernel_rfl) ?_; rotate_left; focus (intro W1 hSw; (try dsimp only at hSw); go_simp; try (with_reducible rfl))); (try simp only [Act.put, List.getElem_toArray, List.getElem_cons_succ, List.getElem_cons_zero, List.setIfInBounds_toArray, List.set_cons_zero, List.set_cons_succ])
      (refine wpAnyT_take (i := 1) (v := ?_) rfl (by kernel_rfl) (by kernel_rfl) (by kernel_rfl) (by kernel_rfl) (fun _ _ _ h => h) (Or.inl ⟨rfl, ?_⟩) hS (by kernel_rfl) ?_; rotate_left; focus (intro W1 hSw; (try dsimp only at hSw); go_simp; try (with_reducible rfl))); (try simp only [Act.put, List.getElem_toArray, List.getElem_cons_succ, List.getElem_cons_zero, List.setIfInBounds_toArray, List.set_cons_zero, List.set_cons_succ])
      refine wpAnyT_one (i := 2) (by kernel_rfl) rfl (fun K hK => ?_)
      obtain ⟨⟨a0x, a1x, a2x⟩, ⟨f0x, f1x, f2x⟩, az⟩ := HZ.out
      go_simp
      clear a0x a1x a2x f0x f1x f2x az
      obtain ⟨w7, hw7⟩ : ∃ wx, wx = ((wd.setCell ⟨GZ, 0, none⟩ (.int .i64 0)).setCell ⟨GZ, 1, none⟩ (.int .i64 0)).setCell ⟨GZ, 2, none⟩ (.int .i64 0) := ⟨_, rfl⟩
      rw [← hw7]
      have HK := Lib.hid (((HK.out.far ⟨GZ, 0, none⟩ (.int .i64 0) (by show GK ≠ GZ; exact ne_K_Z)).far ⟨GZ, 1, none⟩ (.int .i64 0) (by show GK ≠ GZ; exact ne_K_Z)).far ⟨GZ, 2, none⟩ (.int .i64 0) (by show GK ≠ GZ; exact ne_K_Z))
      have HC := Lib.hid (((HC.out.far ⟨GZ, 0, none⟩ (.int .i64 0) (by show GC ≠ GZ; exact ne_C_Z)).far ⟨GZ, 1, none⟩ (.int .i64 0) (by show GC ≠ GZ; exact ne_C_Z)).far ⟨GZ, 2, none⟩ (.int .i64 0) (by show GC ≠ GZ; exact ne_C_Z))
      have HZ := Lib.hid (((HZ.out.set0 0).set1 0).set2 0)
      have HB := Lib.hid (Below.setCell (Below.setCell (Below.setCell HB.out (p := ⟨GZ, 0, none⟩) le_Z (.int .i64 0)) (p := ⟨GZ, 1, none⟩) le_Z (.int .i64 0)) (p := ⟨GZ, 2, none⟩) le_Z (.int .i64 0))
      have hKO := hKO.trans (((KeepsOthers.setCell wd ⟨GZ, 0, none⟩ (.int .i64 0)).trans (KeepsOthers.setCell _ ⟨GZ, 1, none⟩ (.int .i64 0))).trans (KeepsOthers.setCell _ ⟨GZ, 2, none⟩ (.int .i64 0)))
      rw [← hw7] at HK HZ HC HB hKO
      clear hw7 hS
      have hS := HK.out.1
      refine hK _ _ (fun _ _ => hS) ?_
      clear hK K
      (try simp only [Act.put, List.getElem_toArray, List.getElem_cons_succ, List.getElem_cons_zero, List.setIfInBounds_toArray, List.set_cons_zero, List.set_cons_succ])
      refine wpAnyT_one (i := 3) (by kernel_rfl) rfl (fun K hK => ?_)
      obtain ⟨a0x, f0x, az⟩ := HC.out
      go_simp
      clear a0x f0x az
      obtain ⟨w8, hw8⟩ : ∃ wx, wx = w7.setCell ⟨GC, 0, none⟩ (.int .i64 3) := ⟨_, rfl⟩
      rw [← hw8]
      have HK := Lib.hid (HK.out.far ⟨GC, 0, none⟩ (.int .i64 3) (by show GK ≠ GC; exact ne_K_C))
      have HZ := Lib.hid (HZ.out.far ⟨GC, 0, none⟩ (.int .i64 3) (by show GZ ≠ GC; exact ne_Z_C))
      have HC := Lib.hid (HC.out.set0 3)
      have HB := Lib.hid (Below.setCell HB.out (p := ⟨GC, 0, none⟩) le_C (.int .i64 3))
      have hKO := hKO.trans (KeepsOthers.setCell w7 ⟨GC, 0, none⟩ (.int .i64 3))
      rw [← hw8] at HK HZ HC HB hKO
      clear hw8 hS
      have hS := HK.out.1
      refine hK _ _ (fun _ _ => hS) ?_
      clear hK K
      (try simp only [Act.put, List.getElem_toArray, List.getElem_cons_succ, List.getElem_cons_zero, List.setIfInBounds_toArray, List.set_cons_zero, List.set_cons_succ])
      refine wpAnyT_done (by kernel_rfl) ?_ _
      gi_wp2
      exact ⟨hKO.from _, ⟨rfl, HF.out, HZ.out, HC.out⟩, HB.out⟩
    · have HF : Hid (stP (0, r1, r2) PX = some (c, a + xp * c, b + xq * c)) := by show _ = _; rw [HS.out]; unfold stp; dsimp only; rw [if_pos hN]
      unfold lmV lmK at HL
      rw [hN] at HL
      simp only [if_true] at HL
      have HNN := Lib.hid hN
      clear hN HS
      gi_wp2
      refine wpIn_region_roundT (fun i => i == 25 || i == 26) (fun W1 => Below w.heap.size w W1 ∧ Bk3 W1 GT a b c ∧ W1.cell? ⟨g, 0, none⟩ = some (.int .i64 xp) ∧ W1.cell? ⟨g, 1, none⟩ = some (.int .i64 xq)) (by kernel_rfl) (by kernel_rfl) (fun _ _ q => q) ?_ (fun hS => ?_)
      · exact ⟨Below.drew HB.out, HT.out.below (Below.drew (Below.refl _ _)), e0, e1⟩
      have HT := Lib.hid (HT.out.below (Below.drew (Below.refl _ _)))
      have HK := Lib.hid (HK.out.below (Below.drew (Below.refl _ _)))
      have HZ := Lib.hid (HZ.out.below (Below.drew (Below.refl _ _)))
      have HC := Lib.hid (HC.out.below (Below.drew (Below.refl _ _)))
      have hKO := KeepsOthers.drew W
      have hBK : Below w.heap.size W W.drew := Below.drew (Below.refl _ _)
      have hGI0 : GI < W.drew.heap.size := hGI
      have hIC : W.drew.cell? ⟨GI, 0, none⟩ = W.cell? ⟨GI, 0, none⟩ := rfl
      obtain ⟨wd, hwd⟩ : ∃ wx, W.drew = wx := ⟨_, rfl⟩
      rw [hwd] at HT HK HZ HC hS hKO hGI0 hIC hgd hBK ⊢
      clear e0 e1 hwd
      (refine wpAnyT_take (i := 0) (v := ?_) rfl (by kernel_rfl) (by kernel_rfl) (by kernel_rfl) (by kernel_rfl) (fun _ _ _ h => h) (Or.inl ⟨rfl, ?_⟩) hS (by kernel_rfl) ?_; rotate_left; focus (intro W1 hSw; (try dsimp only at hSw); obtain ⟨_, ⟨⟨s0, s1, s2⟩, _, _⟩, s3, s4⟩ := hSw; go_simp; (try simp only [hw1, hw2, hw3, hw4]); try (with_reducible rfl))); (try simp only [Act.put, List.getElem_toArray, List.getElem_cons_succ, List.getElem_cons_zero, List.setIfInBounds_toArray, List.set_cons_zero, List.set_cons_succ])
      (refine wpAnyT_take (i := 1) (v := ?_) rfl (by kernel_rfl) (by kernel_rfl) (by kernel_rfl) (by kernel_rfl) (fun _ _ _ h => h) (Or.inl ⟨rfl, ?_⟩) hS (by kernel_rfl) ?_; rotate_left; focus (intro W1 hSw; (try dsimp only at hSw); obtain ⟨_, ⟨⟨s0, s1, s2⟩, _, _⟩, s3, s4⟩ := hSw; go_simp; (try simp only [hw1, hw2, hw3, hw4]); try (with_reducible rfl))); (try simp only [Act.put, List.getElem_toArray, List.getElem_cons_succ, List.getElem_cons_zero, List.setIfInBounds_toArray, List.set_cons_zero, List.set_cons_succ])
      (refine wpAnyT_take (i := 2) (v := ?_) rfl (by kernel_rfl) (by kernel_rfl) (by kernel_rfl) (by kernel_rfl) (fun _ _ _ h => h) (Or.inl ⟨rfl, ?_⟩) hS (by kernel_rfl) ?_; rotate_left; focus (intro W1 hSw; (try dsimp only at hSw); obtain ⟨_, ⟨⟨s0, s1, s2⟩, _, _⟩, s3, s4⟩ := hSw; go_simp; (try simp only [hw1, hw2, hw3, hw4]); try (with_reducible rfl))); (try simp only [Act.put, List.getElem_toArray, List.getElem_cons_succ, List.getElem_cons_zero, List.setIfInBounds_toArray, List.set_cons_zero, List.set_cons_succ])
      (refine wpAnyT_take (i := 3) (v := ?_) rfl (by kernel_rfl) (by kernel_rfl) (by kernel_rfl) (by kernel_rfl) (fun _ _ _ h => h) (Or.inl ⟨rfl, ?_⟩) hS (by kernel_rfl) ?_; rotate_left; focus (intro W1 hSw; (try dsimp only at hSw); obtain ⟨_, ⟨⟨s0, s1, s2⟩, _, _⟩, s3, s4⟩ := hSw; go_simp; (try simp only [hw1, hw2, hw3, hw4]); try (with_reducible rfl))); (try simp only [Act.put, List.getElem_toArray, List.getElem_cons_succ, List.getElem_cons_zero, List.setIfInBounds_toArray, List.set_cons_zero, List.set_cons_succ])
      (refine wpAnyT_take (i := 4) (v := ?_) rfl (by kernel_rfl) (by kernel_rfl) (by kernel_rfl) (by kernel_rfl) (fun _ _ _ h => h) (Or.inl ⟨rfl, ?_⟩) hS (by kernel_rfl) ?_; rotate_left; focus (intro W1 hSw; (try dsimp only at hSw); obtain ⟨_, ⟨⟨s0, s1, s2⟩, _, _⟩, s3, s4⟩ := hSw; go_simp; (try simp only [hw1, hw2, hw3, hw4]); try (with_reducible rfl))); (try simp only [Act.put, List.getElem_toArray, List.getElem_cons_succ, List.getElem_cons_zero, List.setIfInBounds_toArray, List.set_cons_zero, List.set_cons_succ])
      (refine wpAnyT_take (i := 5) (v := ?_) rfl (by kernel_rfl) (by kernel_rfl) (by kernel_rfl) (by kernel_rfl) (fun _ _ _ h => h) (Or.inl ⟨rfl, ?_⟩) hS (by kernel_rfl) ?_; rotate_left; focus (intro W1 hSw; (try dsimp only at hSw); obtain ⟨_, ⟨⟨s0, s1, s2⟩, _, _⟩, s3, s4⟩ := hSw; go_simp; (try simp only [hw1, hw2, hw3, hw4]); try (with_reducible rfl))); (try simp only [Act.put, List.getElem_toArray, List.getElem_cons_succ, List.getElem_cons_zero, List.setIfInBounds_toArray, List.set_cons_zero, List.set_cons_succ])
      (refine wpAnyT_take (i := 6) (v := ?_) rfl (by kernel_rfl) (by kernel_rfl) (by kernel_rfl) (by kernel_rfl) (fun _ _ _ h => h) (Or.inl ⟨rfl, ?_⟩) hS (by kernel_rfl) ?_; rotate_left; focus (intro W1 hSw; (try dsimp only at hSw); obtain ⟨_, ⟨⟨s0, s1, s2⟩, _, _⟩, s3, s4⟩ := hSw; go_simp; (try simp only [hw1, hw2, hw3, hw4]); try (with_reducible rfl))); (try simp only [Act.put, List.getElem_toArray, List.getElem_cons_succ, List.getElem_cons_zero, List.setIfInBounds_toArray, List.set_cons_zero, List.set_cons_succ])
      (refine wpAnyT_take (i := 7) (v := ?_) rfl (by kernel_rfl) (by kernel_rfl) (by kernel_rfl) (by kernel_rfl) (fun _ _ _ h => h) (Or.inl ⟨rfl, ?_⟩) hS (by kernel_rfl) ?_; rotate_left; focus (intro W1 hSw; (try dsimp only at hSw); obtain ⟨_, ⟨⟨s0, s1, s2⟩, _, _⟩, s3, s4⟩ := hSw; go_simp; (try simp only [hw1, hw2, hw3, hw4]); try (with_reducible rfl))); (try simp only [Act.put, List.getElem_toArray, List.getElem_cons_succ, List.getElem_cons_zero, List.setIfInBounds_toArray, List.set_cons_zero, List.set_cons_succ])
      (refine wpAnyT_take (i := 8) (v := ?_) rfl (by kernel_rfl) (by kernel_rfl) (by kernel_rfl) (by kernel_rfl) (fun _ _ _ h => h) (Or.inl ⟨rfl, ?_⟩) hS (by kernel_rfl) ?_; rotate_left; focus (intro W1 hSw; (try dsimp only at hSw); obtain ⟨_, ⟨⟨s0, s1, s2⟩, _, _⟩, s3, s4⟩ := hSw; go_simp; (try simp only [hw1, hw2, hw3, hw4]); try (with_reducible rfl))); (try simp only [Act.put, List.getElem_toArray, List.getElem_cons_succ, List.getElem_cons_zero, List.setIfInBounds_toArray, List.set_cons_zero, List.set_cons_succ])
      (refine wpAnyT_take (i := 9) (v := ?_) rfl (by kernel_rfl) (by kernel_rfl) (by kernel_rfl) (by kernel_rfl) (fun _ _ _ h => h) (Or.inl ⟨rfl, ?_⟩) hS (by kernel_rfl) ?_; rotate_left; focus (intro W1 hSw; (try dsimp only at hSw); obtain ⟨_, ⟨⟨s0, s1, s2⟩, _, _⟩, s3, s4⟩ := hSw; go_simp; (try simp only [hw1, hw2, hw3, hw4]); try (with_reducible rfl))); (try simp only [Act.put, List.getElem_toArray, List.getElem_cons_succ, List.getElem_cons_zero, List.setIfInBounds_toArray, List.set_cons_zero, List.set_cons_succ])
      (refine wpAnyT_take (i := 10) (v := ?_) rfl (by kernel_rfl) (by kernel_rfl) (by kernel_rfl) (by kernel_rfl) (fun _ _ _ h => h) (Or.inl ⟨rfl, ?_⟩) hS (by kernel_rfl) ?_; rotate_left; focus (intro W1 hSw; (try dsimp only at hSw); obtain ⟨_, ⟨⟨s0, s1, s2⟩, _, _⟩, s3, s4⟩ := hSw; go_simp; (try simp only [hw1, hw2, hw3, hw4]); try (with_reducible rfl))); (try simp only [Act.put, List.getElem_toArray, List.getElem_cons_succ, List.getElem_cons_zero, List.setIfInBounds_toArray, List.set_cons_zero, List.set_cons_succ])
      (refine wpAnyT_take (i := 11) (v := ?_) rfl (by kernel_rfl) (by kernel_rfl) (by kernel_rfl) (by kernel_rfl) (fun _ _ _ h => h) (Or.inl ⟨rfl, ?_⟩) hS (by kernel_rfl) ?_; rotate_left; focus (intro W1 hSw; (try dsimp only at hSw); obtain ⟨_, ⟨⟨s0, s1, s2⟩, _, _⟩, s3, s4⟩ := hSw; go_simp; (try simp only [hw1, hw2, hw3, hw4]); try (with_reducible rfl))); (try simp only [Act.put, List.getElem_toArray, List.getElem_cons_succ, List.getElem_cons_zero, List.setIfInBounds_toArray, List.set_cons_zero, List.set_cons_succ])
      (refine wpAnyT_take (i := 12) (v := ?_) rfl (by kernel_rfl) (by kernel_rfl) (by kernel_rfl) (by kernel_rfl) (fun _ _ _ h => h) (Or.inl ⟨rfl, ?_⟩) hS (by kernel_rfl) ?_; rotate_left; focus (intro W1 hSw; (try dsimp only at hSw); obtain ⟨_, ⟨⟨s0, s1, s2⟩, _, _⟩, s3, s4⟩ := hSw; go_simp; (try simp only [hw1, hw2, hw3, hw4]); try (with_reducible rfl))); (try simp only [Act.put, List.getElem_toArray, List.getElem_cons_succ, List.getElem_cons_zero, List.setIfInBounds_toArray, List.set_cons_zero, List.set_cons_succ])
      (refine wpAnyT_take (i := 13) (v := ?_) rfl (by kernel_rfl) (by kernel_rfl) (by kernel_rfl) (by kernel_rfl) (fun _ _ _ h => h) (Or.inl ⟨rfl, ?_⟩) hS (by kernel_rfl) ?_; rotate_left; focus (intro W1 hSw; (try dsimp only at hSw); obtain ⟨_, ⟨⟨s0, s1, s2⟩, _, _⟩, s3, s4⟩ := hSw; go_simp; (try simp only [hw1, hw2, hw3, hw4]); try (with_reducible rfl))); (try simp only [Act.put, List.getElem_toArray, List.getElem_cons_succ, List.getElem_cons_zero, List.setIfInBounds_toArray, List.set_cons_zero, List.set_cons_succ])
      (refine wpAnyT_take (i := 14) (v := ?_) rfl (by kernel_rfl) (by kernel_rfl) (by kernel_rfl) (by kernel_rfl) (fun _ _ _ h => h) (Or.inl ⟨rfl, ?_⟩) hS (by kernel_rfl) ?_; rotate_left; focus (intro W1 hSw; (try dsimp only at hSw); obtain ⟨_, ⟨⟨s0, s1, s2⟩, _, _⟩, s3, s4⟩ := hSw; go_simp; (try simp only [hw1, hw2, hw3, hw4]); try (with_reducible rfl))); (try simp only [Act.put, List.getElem_toArray, List.getElem_cons_succ, List.getElem_cons_zero, List.setIfInBounds_toArray, List.set_cons_zero, List.set_cons_succ])
      (refine wpAnyT_take (i := 15) (v := ?_) rfl (by kernel_rfl) (by kernel_rfl) (by kernel_rfl) (by kernel_rfl) (fun _ _ _ h => h) (Or.inl ⟨rfl, ?_⟩) hS (by kernel_rfl) ?_; rotate_left; focus (intro W1 hSw; (try dsimp only at hSw); obtain ⟨_, ⟨⟨s0, s1, s2⟩, _, _⟩, s3, s4⟩ := hSw; go_simp; (try simp only [hw1, hw2, hw3, hw4]); try (with_reducible rfl))); (try simp only [Act.put, List.getElem_toArray, List.getElem_cons_succ, List.getElem_cons_zero, List.setIfInBounds_toArray, List.set_cons_zero, List.set_cons_succ])
      (refine wpAnyT_take (i := 16) (v := ?_) rfl (by kernel_rfl) (by kernel_rfl) (by kernel_rfl) (by kernel_rfl) (fun _ _ _ h => h) (Or.inl ⟨rfl, ?_⟩) hS (by kernel_rfl) ?_; rotate_left; focus (intro W1 hSw; (try dsimp only at hSw); obtain ⟨_, ⟨⟨s0, s1, s2⟩, _, _⟩, s3, s4⟩ := hSw; go_simp; (try simp only [hw1, hw2, hw3, hw4]); try (with_reducible rfl))); (try simp only [Act.put, List.getElem_toArray, List.getElem_cons_succ, List.getElem_cons_zero, List.setIfInBounds_toArray, List.set_cons_zero, List.set_cons_succ])
      (refine wpAnyT_take (i := 17) (v := ?_) rfl (by kernel_rfl) (by kernel_rfl) (by kernel_rfl) (by kernel_rfl) (fun _ _ _ h => h) (Or.inl ⟨rfl, ?_⟩) hS (by kernel_rfl) ?_; rotate_left; focus (intro W1 hSw; (try dsimp only at hSw); obtain ⟨_, ⟨⟨s0, s1, s2⟩, _, _⟩, s3, s4⟩ := hSw; go_simp; (try simp only [hw1, hw2, hw3, hw4]); try (with_reducible rfl))); (try simp only [Act.put, List.getElem_toArray, List.getElem_cons_succ, List.getElem_cons_zero, List.setIfInBounds_toArray, List.set_cons_zero, List.set_cons_succ])
      (refine wpAnyT_take (i := 18) (v := ?_) rfl (by kernel_rfl) (by kernel_rfl) (by kernel_rfl) (by kernel_rfl) (fun _ _ _ h => h) (Or.inl ⟨rfl, ?_⟩) hS (by kernel_rfl) ?_; rotate_left; focus (intro W1 hSw; (try dsimp only at hSw); obtain ⟨_, ⟨⟨s0, s1, s2⟩, _, _⟩, s3, s4⟩ := hSw; go_simp; (try simp only [hw1, hw2, hw3, hw4]); try (with_reducible rfl))); (try simp only [Act.put, List.getElem_toArray, List.getElem_cons_succ, List.getElem_cons_zero, List.setIfInBounds_toArray, List.set_cons_zero, List.set_cons_succ])
      (refine wpAnyT_take (i := 19) (v := ?_) rfl (by kernel_rfl) (by kernel_rfl) (by kernel_rfl) (by kernel_rfl) (fun _ _ _ h => h) (Or.inl ⟨rfl, ?_⟩) hS (by kernel_rfl) ?_; rotate_left; focus (intro W1 hSw; (try dsimp only at hSw); obtain ⟨_, ⟨⟨s0, s1, s2⟩, _, _⟩, s3, s4⟩ := hSw; go_simp; (try simp only [hw1, hw2, hw3, hw4]); try (with_reducible rfl))); (try simp only [Act.put, List.getElem_toArray, List.getElem_cons_succ, List.getElem_cons_zero, List.setIfInBounds_toArray, List.set_cons_zero, List.set_cons_succ])
      (refine wpAnyT_take (i := 20) (v := ?_) rfl (by kernel_rfl) (by kernel_rfl) (by kernel_rfl) (by kernel_rfl) (fun _ _ _ h => h) (Or.inl ⟨rfl, ?_⟩) hS (by kernel_rfl) ?_; rotate_left; focus (intro W1 hSw; (try dsimp only at hSw); obtain ⟨_, ⟨⟨s0, s1, s2⟩, _, _⟩, s3, s4⟩ := hSw; go_simp; (try simp only [hw1, hw2, hw3, hw4]); try (with_reducible rfl))); (try simp only [Act.put, List.getElem_toArray, List.getElem_cons_succ, List.getElem_cons_zero, List.setIfInBounds_toArray, List.set_cons_zero, List.set_cons_succ])
      refine wpAnyT_one (i := 21) (by kernel_rfl) rfl (fun K hK => ?_)
      go_simp
      (try rw [hv1, hv2, hv3, hv4])
      go_at_call 18
      refine (HL.out _).mono ?_
      rintro e w4 ⟨rfl, hb⟩
      have hBK := hBK.trans (hb.mono hS.1.size)
      have hS := (⟨below_after hb hS.1, hS.2.1.below hb, (bcell hb).1 _ _ hgd |>.trans hS.2.2.1, (bcell hb).1 _ _ hgd |>.trans hS.2.2.2⟩ : (fun W1 => Below w.heap.size w W1 ∧ Bk3 W1 GT a b c ∧ W1.cell? ⟨g, 0, none⟩ = some (.int .i64 xp) ∧ W1.cell? ⟨g, 1, none⟩ = some (.int .i64 xq)) w4)
      have hKO := hKO.trans (keepsOthers_of_below hb)
      have hIC := ((bcell hb).1 _ _ hGI0).trans hIC
      have hGI0 := Nat.lt_of_lt_of_le hGI0 hb.size
      have HT := Lib.hid (HT.out.below hb)
      have HK := Lib.hid (HK.out.below hb)
      have HZ := Lib.hid (HZ.out.below hb)
      have HC := Lib.hid (HC.out.below hb)
      have HB := Lib.hid hS.1
      clear hb
      refine hK _ _ (fun _ _ => hS) ?_
      clear hK K
      (try simp only [Act.put, List.getElem_toArray, List.getElem_cons_succ, List.getElem_cons_zero, List.setIfInBounds_toArray, List.set_cons_zero, List.set_cons_succ])
      (refine wpAnyT_take (i := 22) (v := ?_) rfl (by kernel_rfl) (by kernel_rfl) (by kernel_rfl) (by kernel_rfl) (fun _ _ _ h => h) (Or.inl ⟨rfl, ?_⟩) hS (by kernel_rfl) ?_; rotate_left; focus (intro W1 hSw; (try dsimp only at hSw); obtain ⟨_, ⟨⟨s0, s1, s2⟩, _, _⟩, s3, s4⟩ := hSw; go_simp; (try simp only [hw1, hw2, hw3, hw4]); try (with_reducible rfl))); (try simp only [Act.put, List.getElem_toArray, List.getElem_cons_succ, List.getElem_cons_zero, List.setIfInBounds_toArray, List.set_cons_zero, List.set_cons_succ])
      (refine wpAnyT_take (i := 23) (v := ?_) rfl (by kernel_rfl) (by kernel_rfl) (by kernel_rfl) (by kernel_rfl) (fun _ _ _ h => h) (Or.inl ⟨rfl, ?_⟩) hS (by kernel_rfl) ?_; rotate_left; focus (intro W1 hSw; (try dsimp only at hSw); obtain ⟨_, ⟨⟨s0, s1, s2⟩, _, _⟩, s3, s4⟩ := hSw; go_simp; (try simp only [hw1, hw2, hw3, hw4]); try (with_reducible rfl))); (try simp only [Act.put, List.getElem_toArray, List.getElem_cons_succ, List.getElem_cons_zero, List.setIfInBounds_toArray, List.set_cons_zero, List.set_cons_succ])
      (refine wpAnyT_pure (i := 24) (v := ?_) rfl (by kernel_rfl) (by kernel_rfl) (by kernel_rfl) (by kernel_rfl) (fun _ _ _ h => h) (Or.inl ⟨rfl, ?_⟩) hS (by kernel_rfl) ?_; rotate_left; focus (intro W1 hSw; go_simp; try (with_reducible rfl))); (try simp only [Act.put, List.getElem_toArray, List.getElem_cons_succ, List.getElem_cons_zero, List.setIfInBounds_toArray, List.set_cons_zero, List.set_cons_succ])
      clear hS
      refine wpAnyT_one (i := 25) (by kernel_rfl) rfl (fun K hK => ?_)
      obtain ⟨⟨a0x, a1x, a2x⟩, ⟨f0x, f1x, f2x⟩, az⟩ := HT.out
      go_simp
      clear a0x a1x a2x f0x f1x f2x az
      refine hK _ _ (fun e => by cases e) ?_
      clear hK K
      (try simp only [Act.put, List.getElem_toArray, List.getElem_cons_succ, List.getElem_cons_zero, List.setIfInBounds_toArray, List.set_cons_zero, List.set_cons_succ])
      obtain ⟨w5, hw5⟩ : ∃ wx, wx = ((w4.setCell ⟨GT, 0, none⟩ (.int .i64 c)).setCell ⟨GT, 1, none⟩ (.int .i64 (a + xp * c))).setCell ⟨GT, 2, none⟩ (.int .i64 (b + xq * c)) := ⟨_, rfl⟩
      rw [← hw5]
      have HK := Lib.hid (((HK.out.far ⟨GT, 0, none⟩ (.int .i64 c) (by show GK ≠ GT; exact ne_K_T)).far ⟨GT, 1, none⟩ (.int .i64 (a + xp * c)) (by show GK ≠ GT; exact ne_K_T)).far ⟨GT, 2, none⟩ (.int .i64 (b + xq * c)) (by show GK ≠ GT; exact ne_K_T))
      have HZ := Lib.hid (((HZ.out.far ⟨GT, 0, none⟩ (.int .i64 c) (by show GZ ≠ GT; exact ne_Z_T)).far ⟨GT, 1, none⟩ (.int .i64 (a + xp * c)) (by show GZ ≠ GT; exact ne_Z_T)).far ⟨GT, 2, none⟩ (.int .i64 (b + xq * c)) (by show GZ ≠ GT; exact ne_Z_T))
      have HC := Lib.hid (((HC.out.far ⟨GT, 0, none⟩ (.int .i64 c) (by show GC ≠ GT; exact ne_C_T)).far ⟨GT, 1, none⟩ (.int .i64 (a + xp * c)) (by show GC ≠ GT; exact ne_C_T)).far ⟨GT, 2, none⟩ (.int .i64 (b + xq * c)) (by show GC ≠ GT; exact ne_C_T))
      have HT := Lib.hid (((HT.out.set0 c).set1 (a + xp * c)).set2 (b + xq * c))
      have HB := Lib.hid (Below.setCell (Below.setCell (Below.setCell HB.out (p := ⟨GT, 0, none⟩) le_T (.int .i64 c)) (p := ⟨GT, 1, none⟩) le_T (.int .i64 (a + xp * c))) (p := ⟨GT, 2, none⟩) le_T (.int .i64 (b + xq * c)))
      have hKO := hKO.trans (((KeepsOthers.setCell w4 _ _).trans (KeepsOthers.setCell _ _ _)).trans (KeepsOthers.setCell _ _ _) : KeepsOthers w4 (((w4.setCell ⟨GT, 0, none⟩ (.int .i64 c)).setCell ⟨GT, 1, none⟩ (.int .i64 (a + xp * c))).setCell ⟨GT, 2, none⟩ (.int .i64 (b + xq * c))))
      have hBK : Below w.heap.size W w5 := by rw [hw5]; exact ((hBK.setCell (p := ⟨GT, 0, none⟩) le_T _).setCell (p := ⟨GT, 1, none⟩) le_T _).setCell (p := ⟨GT, 2, none⟩) le_T _
      rw [← hw5] at HT HK HZ HC HB hKO
      have hIC : w5.cell? ⟨GI, 0, none⟩ = W.cell? ⟨GI, 0, none⟩ := by
        rw [hw5, World.cell?_setCell_far _ _ _ _ (Ne.symm ne_I_T), World.cell?_setCell_far _ _ _ _ (Ne.symm ne_I_T), World.cell?_setCell_far _ _ _ _ (Ne.symm ne_I_T)]; exact hIC
      have hGI0 : GI < w5.heap.size := by rw [hw5]; simpa using hGI0
      clear hw5
      refine wpAnyT_one (i := 26) (by kernel_rfl) rfl (fun K hK => ?_)
      obtain ⟨a0x, f0x, az⟩ := HK.out
      go_simp
      clear a0x f0x az
      refine hK _ _ (fun e => by cases e) ?_
      clear hK K
      (try simp only [Act.put, List.getElem_toArray, List.getElem_cons_succ, List.getElem_cons_zero, List.setIfInBounds_toArray, List.set_cons_zero, List.set_cons_succ])
      obtain ⟨w6, hw6⟩ : ∃ wx, wx = w5.setCell ⟨GK, 0, none⟩ (.int .i64 0) := ⟨_, rfl⟩
      rw [← hw6]
      have HT := Lib.hid (HT.out.far ⟨GK, 0, none⟩ (.int .i64 0) (by show GT ≠ GK; exact ne_T_K))
      have HZ := Lib.hid (HZ.out.far ⟨GK, 0, none⟩ (.int .i64 0) (by show GZ ≠ GK; exact ne_Z_K))
      have HC := Lib.hid (HC.out.far ⟨GK, 0, none⟩ (.int .i64 0) (by show GC ≠ GK; exact ne_C_K))
      have HK := Lib.hid (HK.out.set0 0)
      have HB := Lib.hid (Below.setCell HB.out (p := ⟨GK, 0, none⟩) le_K (.int .i64 0))
      have hKO := hKO.trans (KeepsOthers.setCell w5 ⟨GK, 0, none⟩ (.int .i64 0))
      have hIC : w6.cell? ⟨GI, 0, none⟩ = W.cell? ⟨GI, 0, none⟩ := by
        rw [hw6, World.cell?_setCell_far _ _ _ _ (Ne.symm ne_I_K)]; exact hIC
      have hBK : Below w.heap.size W w6 := by rw [hw6]; exact hBK.setCell (p := ⟨GK, 0, none⟩) le_K _
      rw [← hw6] at HT HK HZ HC HB hKO
      have hGI0 : GI < w6.heap.size := by rw [hw6]; simpa using hGI0
      clear hw6
      refine wpAnyT_done (by kernel_rfl) ?_ _
      obtain ⟨⟨qT0, qT1, qT2⟩, ⟨fT0, fT1, fT2⟩, zT⟩ := HT.out
      obtain ⟨qK0, fK0, zK⟩ := HK.out
      obtain ⟨⟨qZ0, qZ1, qZ2⟩, ⟨fZ0, fZ1, fZ2⟩, zZ⟩ := HZ.out
      obtain ⟨qC0, fC0, zC⟩ := HC.out
      gi_wp2
      clear qT0 fT0 qT1 fT1 qT2 fT2 zT qK0 fK0 zK qZ0 fZ0 qZ1 fZ1 qZ2 fZ2 zZ qC0 fC0 zC
      exact ⟨hKO.from _, ⟨hBK, hIC⟩, ⟨_, _, _, HF.out, HNN.out, HT.out, HK.out, HZ.out, HC.out, hGI0⟩, HB.out⟩
  case done =>
    rintro D ys W hD rfl ⟨⟨a, b, c, hst, hwh, HT0, HK0, HZ0, HC0, hGI⟩, hBW⟩ hK
    have hfin := stP_upto HA.out HHD.out (0, r1, r2) n (Nat.le_refl _)
    rw [hst, Nat.sub_self] at hfin
    have HVV : Hid (tdR xss 0 r1 r2 = .tuple #[.agg #[.int .i64 a, .int .i64 b, .int .i64 c], .int .i64 0]) := by
      show _ = _
      rw [HV.out, HXL.out, ← (show tdZ xss 0 (some (a, b, c)) = tdF xss n 0 r1 r2 from hfin)]; rfl
    clear hfin hst hwh HK0 hGI HR HZ HC HT HK
    obtain ⟨⟨p0, p1, p2⟩, ⟨p3, p4, p5⟩, p6⟩ := HT0
    obtain ⟨⟨z0, z1, z2⟩, ⟨z3, z4, z5⟩, z6⟩ := HZ0
    obtain ⟨y0, y1, y2⟩ := HC0
    go_wp2_with fail
    obtain ⟨W2, hW2⟩ : ∃ wx, wx = (((W.setCell ⟨GZ, 0, none⟩ (.int .i64 a)).setCell ⟨GZ, 1, none⟩ (.int .i64 b)).setCell ⟨GZ, 2, none⟩ (.int .i64 c)).setCell ⟨GC, 0, none⟩ (.int .i64 0) := ⟨_, rfl⟩
    rw [← hW2]
    have HZ1 : Bk3 W GZ 0 0 0 := ⟨⟨z0, z1, z2⟩, ⟨z3, z4, z5⟩, z6⟩
    have HC1 : Bk1 W GC 0 := ⟨y0, y1, y2⟩
    have HZn : Bk3 W2 GZ a b c := by rw [hW2]; exact (((HZ1.set0 a).set1 b).set2 c).far _ _ ne_Z_C
    have HCn : Bk1 W2 GC 0 := by rw [hW2]; exact (((HC1.far _ _ ne_C_Z).far _ _ ne_C_Z).far _ _ ne_C_Z).set0 0
    have hKO : KeepsOthers W W2 := by rw [hW2]; exact (((KeepsOthers.setCell W _ _).trans (KeepsOthers.setCell _ _ _)).trans (KeepsOthers.setCell _ _ _)).trans (KeepsOthers.setCell _ _ _)
    have hB2 : Below w.heap.size w W2 := by rw [hW2]; exact (((hBW.setCell (p := ⟨GZ, 0, none⟩) le_Z _).setCell (p := ⟨GZ, 1, none⟩) le_Z _).setCell (p := ⟨GZ, 2, none⟩) le_Z _).setCell (p := ⟨GC, 0, none⟩) le_C _
    clear hW2
    have hK3 := hKO.same D _ hK rfl
    have g0 := cell_kept HZn.1.1 (grownBy_putObj' W2 D (.deferred none)) (fun r e => by cases e; exact ⟨_, hK3, rfl⟩)
    have g1 := cell_kept HZn.1.2.1 (grownBy_putObj' W2 D (.deferred none)) (fun r e => by cases e; exact ⟨_, hK3, rfl⟩)
    have g2 := cell_kept HZn.1.2.2 (grownBy_putObj' W2 D (.deferred none)) (fun r e => by cases e; exact ⟨_, hK3, rfl⟩)
    have g3 := cell_kept HCn.1 (grownBy_putObj' W2 D (.deferred none)) (fun r e => by cases e; exact ⟨_, hK3, rfl⟩)
    refine ⟨by simp, .inl ⟨_, _, rfl, run_takeDeferred hK3, ?_⟩⟩
    refine ⟨tdR xss 0 r1 r2, ?_, rfl, hB2.trans (belowK_b (w := w) (Nat.le_refl _) W2 D _ _ (Nat.le_trans hbw3 hD) hK3 rfl rfl)⟩
    rw [HVV.out]
    simp [results, Try.f8, go_sem, g0, g1, g2, g3]
  case stop =>
    rintro D c pre W hD ⟨k, hk, rfl⟩ ⟨⟨rfl, hno, HZ0, HC0⟩, hBW⟩ hK
    have hfin := stP_upto HA.out HHD.out (0, r1, r2) k hk
    rw [hno] at hfin
    have HVV : Hid (tdR xss 0 r1 r2 = .tuple #[.agg #[.int .i64 0, .int .i64 0, .int .i64 0], .int .i64 3]) := by
      show _ = _
      rw [HV.out, HXL.out, ← (show tdZ xss (n - k) none = tdF xss n 0 r1 r2 from hfin)]; rfl
    clear hfin hno HR HZ HC HT HK
    obtain ⟨⟨z0, z1, z2⟩, ⟨z3, z4, z5⟩, z6⟩ := HZ0
    obtain ⟨y0, y1, y2⟩ := HC0
    have HZn : Bk3 W GZ 0 0 0 := ⟨⟨z0, z1, z2⟩, ⟨z3, z4, z5⟩, z6⟩
    have HCn : Bk1 W GC 3 := ⟨y0, y1, y2⟩
    have hB2 := hBW
    have hKO := KeepsOthers.refl W
    gi_wp2
    have hK3 := hKO.same D _ hK rfl
    have g0 := cell_kept HZn.1.1 (grownBy_putObj' W D (.deferred none)) (fun r e => by cases e; exact ⟨_, hK3, rfl⟩)
    have g1 := cell_kept HZn.1.2.1 (grownBy_putObj' W D (.deferred none)) (fun r e => by cases e; exact ⟨_, hK3, rfl⟩)
    have g2 := cell_kept HZn.1.2.2 (grownBy_putObj' W D (.deferred none)) (fun r e => by cases e; exact ⟨_, hK3, rfl⟩)
    have g3 := cell_kept HCn.1 (grownBy_putObj' W D (.deferred none)) (fun r e => by cases e; exact ⟨_, hK3, rfl⟩)
    refine ⟨by simp, .inl ⟨_, _, rfl, run_takeDeferred hK3, ?_⟩⟩
    refine ⟨tdR xss 0 r1 r2, ?_, rfl, hB2.trans (belowK_b (w := w) (Nat.le_refl _) W D _ _ (Nat.le_trans hbw3 hD) hK3 rfl rfl)⟩
    rw [HVV.out]
    simp [results, Try.f8, go_sem, g0, g1, g2, g3]
end Go.Proofs.Ythckbobbnkhnpaa
