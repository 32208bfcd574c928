/-
  The last station, StepTriple, HasEnded, RunTriple at all arguments, in the program (own work).
-/
import Derived.Test.YtbgifgfegndlkaaTrV
namespace Go.Proofs.Ytbgifgfegndlkaa
open Go.Conc (scase rcase heap_setChan below_setChan size_setChan)
open Go.ChangeShapes Go.WideShapes Go.ChangeAt Go.RowKit
set_option linter.unusedVariables false
set_option linter.unusedSimpArgs false
set_option maxRecDepth 100000

set_option maxHeartbeats 6400000 in
theorem lastStation_any (k : Nat) (hk : k < 4) (n : Nat) (hn : n ≤ 300) (a b c : Int) (hs : isSt a b c = true) (w : World) : Calls Try.prog 62 #[.agg #[.int .i64 a, .int .i64 b, .int .i64 c], .iface (rt k) (.agg #[]), .int .i64 (n : Int)] w fun e w' => e = .returned (vS (lastF s00 (runL k n (s0S (a, b, c))))) ∧ Below w.heap.size w w' := by
  have HRUN := Lib.hid (fun w => runOf_any k hk n hn a b c hs w)
  have HRT := Lib.hid hn
  obtain ⟨LAST, hL⟩ : ∃ L, lastF s00 (runL k n (s0S (a, b, c))) = L := ⟨_, rfl⟩
  have HLST : Hid (lastF ((0, 0, 0), (0, 0, 0), (0, 0, 0), (0, 0, 0)) (runL k n (s0S (a, b, c))) = LAST) := hL
  rw [hL]
  obtain ⟨T, hT⟩ : ∃ T, rt k = T := ⟨_, rfl⟩
  rw [hT] at HRUN ⊢
  clear hL hT hs hk
  have hzero : (Try.prog.info? 69).map (fun i => (i.zero, i.size, i.bytes)) = some (some (.agg #[.int .i64 0, .int .i64 0, .int .i64 0, .int .i64 0, .int .i64 0, .int .i64 0, .int .i64 0, .int .i64 0, .int .i64 0, .int .i64 0, .int .i64 0, .int .i64 0]), 12, 96) := by kernel_rfl
  obtain ⟨GT, hG⟩ : ∃ G, w.heap.size = G := ⟨_, rfl⟩
  have HG := Lib.hid hG
  go_enter Try.func62, Try.ntmps62
  go_upto_region 1 with fail
  obtain ⟨w0, hw0⟩ : ∃ w0, w0 = ((w.alloc (.cells #[.int .i64 a, .int .i64 b, .int .i64 c] 24)).alloc (.cells #[.int .i64 0, .int .i64 0, .int .i64 0, .int .i64 0, .int .i64 0, .int .i64 0, .int .i64 0, .int .i64 0, .int .i64 0, .int .i64 0, .int .i64 0, .int .i64 0] 69)) := ⟨_, rfl⟩
  rw [← hw0]
  have HT : Hid (Bk3 w0 GT a b c) := by
    have h := (bk3_new w a b c 24).below (W' := ((w.alloc (.cells #[.int .i64 a, .int .i64 b, .int .i64 c] 24)).alloc (.cells #[.int .i64 0, .int .i64 0, .int .i64 0, .int .i64 0, .int .i64 0, .int .i64 0, .int .i64 0, .int .i64 0, .int .i64 0, .int .i64 0, .int .i64 0, .int .i64 0] 69))) (by (repeat' (first | (with_reducible exact Below.refl _ _) | (with_reducible refine Below.alloc ?_ ?_ _) | (with_reducible refine Below.setCell ?_ ?_ _) | (with_reducible refine Below.drew ?_) | (with_reducible refine below_drewN ?_ _) | (with_reducible assumption) | (with_reducible refine below_after (by with_reducible assumption) ?_) | go_size)))
    (try simp only [World.size_alloc] at h)
    rw [hG] at h
    rw [hw0]; exact h
  have HR : Hid (Bk12 w0 (GT + 1) 0 0 0 0 0 0 0 0 0 0 0 0) := by
    have h := (bk12_new (w.alloc (.cells #[.int .i64 a, .int .i64 b, .int .i64 c] 24)) 0 0 0 0 0 0 0 0 0 0 0 0 69).below (W' := ((w.alloc (.cells #[.int .i64 a, .int .i64 b, .int .i64 c] 24)).alloc (.cells #[.int .i64 0, .int .i64 0, .int .i64 0, .int .i64 0, .int .i64 0, .int .i64 0, .int .i64 0, .int .i64 0, .int .i64 0, .int .i64 0, .int .i64 0, .int .i64 0] 69))) (by (repeat' (first | (with_reducible exact Below.refl _ _) | (with_reducible refine Below.alloc ?_ ?_ _) | (with_reducible refine Below.setCell ?_ ?_ _) | (with_reducible refine Below.drew ?_) | (with_reducible refine below_drewN ?_ _) | (with_reducible assumption) | (with_reducible refine below_after (by with_reducible assumption) ?_) | go_size)))
    (try simp only [World.size_alloc] at h)
    rw [hG] at h
    rw [hw0]; exact h
  have HB : Hid (Below w.heap.size w w0) := by show Below w.heap.size w w0; rw [hw0]; (repeat' (first | (with_reducible exact Below.refl _ _) | (with_reducible refine Below.alloc ?_ ?_ _) | (with_reducible refine Below.setCell ?_ ?_ _) | (with_reducible refine Below.drew ?_) | (with_reducible refine below_drewN ?_ _) | (with_reducible assumption) | (with_reducible refine below_after (by with_reducible assumption) ?_) | go_size))
  clear hw0
  obtain ⟨GR, hGR⟩ : ∃ g, GT + 1 = g := ⟨_, rfl⟩
  rw [hGR] at HR ⊢
  have le_T : w.heap.size ≤ GT := by omega
  have le_R : w.heap.size ≤ GR := by omega
  have ne_R_T : GR ≠ GT := by omega
  have ne_T_R : GT ≠ GR := by omega
  clear hGR
  obtain ⟨⟨qT0, qT1, qT2⟩, ⟨fT0, fT1, fT2⟩, zT⟩ := HT.out
  obtain ⟨⟨qR0, qR1, qR2, qR3, qR4, qR5, qR6, qR7, qR8, qR9, qR10, qR11⟩, ⟨fR0, fR1, fR2, fR3, fR4, fR5, fR6, fR7, fR8, fR9, fR10, fR11⟩, zR⟩ := HR.out
  go_upto_region 2 with fail
  obtain ⟨GL, hGL⟩ : ∃ g, w0.heap.size = g := ⟨_, rfl⟩
  obtain ⟨w1, hw1⟩ : ∃ wx, wx = w0.alloc (.cells #[.int .i64 0, .int .i64 0, .int .i64 0, .int .i64 0, .int .i64 0, .int .i64 0, .int .i64 0, .int .i64 0, .int .i64 0, .int .i64 0, .int .i64 0, .int .i64 0] 69) := ⟨_, rfl⟩
  rw [← hw1, hGL]
  have HL : Hid (Bk12 w1 GL 0 0 0 0 0 0 0 0 0 0 0 0) := by rw [hw1, ← hGL]; exact bk12_new w0 0 0 0 0 0 0 0 0 0 0 0 0 _
  have le_L : w.heap.size ≤ GL := by rw [← hGL]; exact HB.out.size
  have ne_L_T : GL ≠ GT := by have := HT.out.2.2; omega
  have ne_T_L : GT ≠ GL := Ne.symm ne_L_T
  have ne_L_R : GL ≠ GR := by have := HR.out.2.2; omega
  have ne_R_L : GR ≠ GL := Ne.symm ne_L_R
  clear qT0 fT0 qT1 fT1 qT2 fT2 zT qR0 fR0 qR1 fR1 qR2 fR2 qR3 fR3 qR4 fR4 qR5 fR5 qR6 fR6 qR7 fR7 qR8 fR8 qR9 fR9 qR10 fR10 qR11 fR11 zR
  have HT := Lib.hid (HT.out.below ((Below.refl _ _).alloc (Nat.le_refl _) (.cells #[.int .i64 0, .int .i64 0, .int .i64 0, .int .i64 0, .int .i64 0, .int .i64 0, .int .i64 0, .int .i64 0, .int .i64 0, .int .i64 0, .int .i64 0, .int .i64 0] 69)))
  have HR := Lib.hid (HR.out.below ((Below.refl _ _).alloc (Nat.le_refl _) (.cells #[.int .i64 0, .int .i64 0, .int .i64 0, .int .i64 0, .int .i64 0, .int .i64 0, .int .i64 0, .int .i64 0, .int .i64 0, .int .i64 0, .int .i64 0, .int .i64 0] 69)))
  have HB := Lib.hid (Below.alloc HB.out HB.out.size (.cells #[.int .i64 0, .int .i64 0, .int .i64 0, .int .i64 0, .int .i64 0, .int .i64 0, .int .i64 0, .int .i64 0, .int .i64 0, .int .i64 0, .int .i64 0, .int .i64 0] 69))
  rw [← hw1] at HT HR HB
  clear hw1 hGL
  have hszo := HB.out.size
  have hlR := HR.out.2.2
  have hlL := HL.out.2.2
  obtain ⟨⟨qT0, qT1, qT2⟩, ⟨fT0, fT1, fT2⟩, zT⟩ := HT.out
  obtain ⟨⟨qR0, qR1, qR2, qR3, qR4, qR5, qR6, qR7, qR8, qR9, qR10, qR11⟩, ⟨fR0, fR1, fR2, fR3, fR4, fR5, fR6, fR7, fR8, fR9, fR10, fR11⟩, zR⟩ := HR.out
  obtain ⟨⟨qL0, qL1, qL2, qL3, qL4, qL5, qL6, qL7, qL8, qL9, qL10, qL11⟩, ⟨fL0, fL1, fL2, fL3, fL4, fL5, fL6, fL7, fL8, fL9, fL10, fL11⟩, zL⟩ := HL.out
  go_wp2_with fail
  go_at_call 66
  refine (HRUN.out _).mono ?_
  rintro e w2 ⟨GC, rfl, hgc, hch, hb⟩
  clear qT0 fT0 qT1 fT1 qT2 fT2 zT qR0 fR0 qR1 fR1 qR2 fR2 qR3 fR3 qR4 fR4 qR5 fR5 qR6 fR6 qR7 fR7 qR8 fR8 qR9 fR9 qR10 fR10 qR11 fR11 zR qL0 fL0 qL1 fL1 qL2 fL2 qL3 fL3 qL4 fL4 qL5 fL5 qL6 fL6 qL7 fL7 qL8 fL8 qL9 fL9 qL10 fL10 qL11 fL11 zL
  have HT := Lib.hid (HT.out.below hb)
  have HR := Lib.hid (HR.out.below hb)
  have HL := Lib.hid (HL.out.below hb)
  have HB := Lib.hid (below_after hb HB.out)
  clear hb
  have HC := Lib.hid hch
  have le_C : w.heap.size ≤ GC := Nat.le_trans hszo hgc
  have ne_R_C : GR ≠ GC := by omega
  have ne_L_C : GL ≠ GC := by omega
  clear hch hgc hszo hlR hlL HRUN
  clear HT
  obtain ⟨⟨qR0, qR1, qR2, qR3, qR4, qR5, qR6, qR7, qR8, qR9, qR10, qR11⟩, ⟨fR0, fR1, fR2, fR3, fR4, fR5, fR6, fR7, fR8, fR9, fR10, fR11⟩, zR⟩ := HR.out
  obtain ⟨⟨qL0, qL1, qL2, qL3, qL4, qL5, qL6, qL7, qL8, qL9, qL10, qL11⟩, ⟨fL0, fL1, fL2, fL3, fL4, fL5, fL6, fL7, fL8, fL9, fL10, fL11⟩, zL⟩ := HL.out
  go_wp2_with fail
  clear qR0 fR0 qR1 fR1 qR2 fR2 qR3 fR3 qR4 fR4 qR5 fR5 qR6 fR6 qR7 fR7 qR8 fR8 qR9 fR9 qR10 fR10 qR11 fR11 zR qL0 fL0 qL1 fL1 qL2 fL2 qL3 fL3 qL4 fL4 qL5 fL5 qL6 fL6 qL7 fL7 qL8 fL8 qL9 fL9 qL10 fL10 qL11 fL11 zL
  have HNE := Lib.hid (And.intro ne_R_C (And.intro ne_L_C (And.intro ne_L_R (And.intro ne_R_L (And.intro le_C (And.intro le_L le_R))))))
  go_loopw [8] (fun _ wr => ∃ (todo : List Stn) (x0 x1 x2 x3 x4 x5 x6 x7 x8 x9 x10 x11 : Int), lastF ((x0, x1, x2), (x3, x4, x5), (x6, x7, x8), (x9, x10, x11)) todo = LAST ∧ Chn wr GC (n + 1) (todo.map vS) true ∧ Bk12 wr GL x0 x1 x2 x3 x4 x5 x6 x7 x8 x9 x10 x11 ∧ Bk12 wr GR 0 0 0 0 0 0 0 0 0 0 0 0 ∧ Below w.heap.size w wr) (fun _ wr => chLen wr GC)
  case atStart => exact ⟨runL k n (s0S (a, b, c)), 0, 0, 0, 0, 0, 0, 0, 0, 0, 0, 0, 0, HLST.out, HC.out, HL.out, HR.out, HB.out⟩
  case round =>
    obtain ⟨todo, x0, x1, x2, x3, x4, x5, x6, x7, x8, x9, x10, x11, hl, hC, hL, hR, hbel⟩ := hrel
    clear HC HB HL HR HLST
    have HC := Lib.hid hC
    have HB := Lib.hid hbel
    have HL := Lib.hid hL
    have HR := Lib.hid hR
    have HLST := Lib.hid hl
    clear hC hbel hL hR hl
    obtain ⟨ne_R_C, ne_L_C, ne_L_R, ne_R_L, le_C, le_L, le_R⟩ := HNE.out
    cases todo with
    | nil =>
      have hE : ((x0, x1, x2), (x3, x4, x5), (x6, x7, x8), (x9, x10, x11)) = LAST := HLST.out
      go_upto_region 3 with fail
      refine wp_region_ops ?_
      change OpsTo _ _ _ [0, 1] _ _
      obtain ⟨sn, rn, hch⟩ := HC.out
      refine ops_shut (c := GC) (z := .agg #[.int .i64 0, .int .i64 0, .int .i64 0, .int .i64 0, .int .i64 0, .int .i64 0, .int .i64 0, .int .i64 0, .int .i64 0, .int .i64 0, .int .i64 0, .int .i64 0]) rfl rfl (by simp [go_sem, rcase, hzero]) hch ?_
      (try simp only [Act.put, List.getElem_toArray, List.getElem_cons_succ, List.getElem_cons_zero, List.setIfInBounds_toArray, List.set_cons_zero, List.set_cons_succ])
      refine ops_value (v := .bool false) (w' := wr) rfl rfl (by go_simp) ?_
      (try simp only [Act.put, List.getElem_toArray, List.getElem_cons_succ, List.getElem_cons_zero, List.setIfInBounds_toArray, List.set_cons_zero, List.set_cons_succ])
      refine ops_end ?_
      clear hch
      obtain ⟨⟨q0, q1, q2, q3, q4, q5, q6, q7, q8, q9, q10, q11⟩, _, zL⟩ := HL.out
      obtain ⟨_, ⟨f0, f1, f2, f3, f4, f5, f6, f7, f8, f9, f10, f11⟩, zR⟩ := HR.out
      clear HRT
      go_wp2_with fail
      refine bodyPost_ret (v := .agg #[.int .i64 x0, .int .i64 x1, .int .i64 x2, .int .i64 x3, .int .i64 x4, .int .i64 x5, .int .i64 x6, .int .i64 x7, .int .i64 x8, .int .i64 x9, .int .i64 x10, .int .i64 x11]) (by simp (maxDischargeDepth := 8) [results, Try.results62, go_sem, *]) rfl ?_
      have hb := HB.out
      exact ⟨by rw [← hE]; rfl, by (repeat' (first | (with_reducible exact Below.refl _ _) | (with_reducible refine Below.alloc ?_ ?_ _) | (with_reducible refine Below.setCell ?_ ?_ _) | (with_reducible refine Below.drew ?_) | (with_reducible refine below_drewN ?_ _) | (with_reducible assumption) | (with_reducible refine below_after (by with_reducible assumption) ?_) | go_size))⟩
    | cons s rest =>
      obtain ⟨⟨a, b, c⟩, ⟨m0, m1, m2⟩, ⟨m3, m4, m5⟩, ⟨m6, m7, m8⟩⟩ := s
      have HL2 : Hid (lastF ((a, b, c), (m0, m1, m2), (m3, m4, m5), (m6, m7, m8)) rest = LAST) := HLST.out
      go_upto_region 3 with fail
      refine wp_region_ops ?_
      change OpsTo _ _ _ [0, 1] _ _
      obtain ⟨sn, rn, hch⟩ := HC.out
      refine ops_recv (c := GC) (v := .agg #[.int .i64 a, .int .i64 b, .int .i64 c, .int .i64 m0, .int .i64 m1, .int .i64 m2, .int .i64 m3, .int .i64 m4, .int .i64 m5, .int .i64 m6, .int .i64 m7, .int .i64 m8]) (z := .agg #[.int .i64 0, .int .i64 0, .int .i64 0, .int .i64 0, .int .i64 0, .int .i64 0, .int .i64 0, .int .i64 0, .int .i64 0, .int .i64 0, .int .i64 0, .int .i64 0]) (l := rest.map vS) rfl rfl (by simp [go_sem, rcase, hzero]) hch ?_
      (try simp only [Act.put, List.getElem_toArray, List.getElem_cons_succ, List.getElem_cons_zero, List.setIfInBounds_toArray, List.set_cons_zero, List.set_cons_succ])
      obtain ⟨wn, hwn⟩ : ∃ wx, wx = wr.setChan GC (n + 1) (rest.map vS).toArray true sn (rn + 1) false := ⟨_, rfl⟩
      rw [← hwn]
      refine ops_value (v := .bool true) (w' := wn) rfl rfl (by go_simp) ?_
      (try simp only [Act.put, List.getElem_toArray, List.getElem_cons_succ, List.getElem_cons_zero, List.setIfInBounds_toArray, List.set_cons_zero, List.set_cons_succ])
      refine ops_end ?_
      have HC2 : Hid (Chn wn GC (n + 1) (rest.map vS) true) := ⟨sn, rn + 1, by rw [hwn]; exact heap_setChan _ _ _ _ _ _ _ _ HC.out.lt⟩
      have HB2 : Hid (Below w.heap.size w wn) := by show Below _ _ _; rw [hwn]; exact below_setChan HB.out le_C _ _ _ _ _ _
      have hlen := HC.out.len
      have hlen2 := HC2.out.len
      have HME : Hid (chLen wn GC < chLen wr GC) := by show _ < _; rw [hlen, hlen2]; simp
      have HCN : Hid (chLen wn GC = (rest.map vS).length) := hlen2
      have HL3 := Lib.hid (HL.out.same (show wn.heap[GL]? = wr.heap[GL]? by rw [hwn]; exact setChan_block _ _ _ _ _ _ _ _ _ ne_L_C))
      have HR3 := Lib.hid (HR.out.same (show wn.heap[GR]? = wr.heap[GR]? by rw [hwn]; exact setChan_block _ _ _ _ _ _ _ _ _ ne_R_C))
      clear hch hlen hlen2 HC HB HL HR HLST hwn
      have HC := HC2
      have HB := HB2
      have HL := HL3
      have HR := HR3
      clear HC2 HB2 HL3 HR3
      obtain ⟨⟨qL0, qL1, qL2, qL3, qL4, qL5, qL6, qL7, qL8, qL9, qL10, qL11⟩, ⟨fL0, fL1, fL2, fL3, fL4, fL5, fL6, fL7, fL8, fL9, fL10, fL11⟩, zL⟩ := HL.out
      obtain ⟨⟨qR0, qR1, qR2, qR3, qR4, qR5, qR6, qR7, qR8, qR9, qR10, qR11⟩, ⟨fR0, fR1, fR2, fR3, fR4, fR5, fR6, fR7, fR8, fR9, fR10, fR11⟩, zR⟩ := HR.out
      go_upto_region 5 with fail
      obtain ⟨GS, hGS⟩ : ∃ g, wn.heap.size = g := ⟨_, rfl⟩
      obtain ⟨w21, hw21⟩ : ∃ wx, wx = wn.alloc (.cells #[.int .i64 a, .int .i64 b, .int .i64 c, .int .i64 m0, .int .i64 m1, .int .i64 m2, .int .i64 m3, .int .i64 m4, .int .i64 m5, .int .i64 m6, .int .i64 m7, .int .i64 m8] 69) := ⟨_, rfl⟩
      rw [← hw21, hGS]
      have HS : Hid (Bk12 w21 GS a b c m0 m1 m2 m3 m4 m5 m6 m7 m8) := by rw [hw21, ← hGS]; exact bk12_new wn a b c m0 m1 m2 m3 m4 m5 m6 m7 m8 _
      have le_S : w.heap.size ≤ GS := by rw [← hGS]; exact HB.out.size
      have ne_S_L : GS ≠ GL := by have := HL.out.2.2; omega
      have ne_L_S : GL ≠ GS := Ne.symm ne_S_L
      have ne_S_R : GS ≠ GR := by have := HR.out.2.2; omega
      have ne_R_S : GR ≠ GS := Ne.symm ne_S_R
      have ne_S_C : GS ≠ GC := by have := HC.out.lt; omega
      have ne_C_S : GC ≠ GS := Ne.symm ne_S_C
      clear qL0 fL0 qL1 fL1 qL2 fL2 qL3 fL3 qL4 fL4 qL5 fL5 qL6 fL6 qL7 fL7 qL8 fL8 qL9 fL9 qL10 fL10 qL11 fL11 zL qR0 fR0 qR1 fR1 qR2 fR2 qR3 fR3 qR4 fR4 qR5 fR5 qR6 fR6 qR7 fR7 qR8 fR8 qR9 fR9 qR10 fR10 qR11 fR11 zR
      have HL := Lib.hid (HL.out.below ((Below.refl _ _).alloc (Nat.le_refl _) (.cells #[.int .i64 a, .int .i64 b, .int .i64 c, .int .i64 m0, .int .i64 m1, .int .i64 m2, .int .i64 m3, .int .i64 m4, .int .i64 m5, .int .i64 m6, .int .i64 m7, .int .i64 m8] 69)))
      have HR := Lib.hid (HR.out.below ((Below.refl _ _).alloc (Nat.le_refl _) (.cells #[.int .i64 a, .int .i64 b, .int .i64 c, .int .i64 m0, .int .i64 m1, .int .i64 m2, .int .i64 m3, .int .i64 m4, .int .i64 m5, .int .i64 m6, .int .i64 m7, .int .i64 m8] 69)))
      have HC := Lib.hid (HC.out.below ((Below.refl _ _).alloc (Nat.le_refl _) (.cells #[.int .i64 a, .int .i64 b, .int .i64 c, .int .i64 m0, .int .i64 m1, .int .i64 m2, .int .i64 m3, .int .i64 m4, .int .i64 m5, .int .i64 m6, .int .i64 m7, .int .i64 m8] 69)))
      have HB := Lib.hid (Below.alloc HB.out HB.out.size (.cells #[.int .i64 a, .int .i64 b, .int .i64 c, .int .i64 m0, .int .i64 m1, .int .i64 m2, .int .i64 m3, .int .i64 m4, .int .i64 m5, .int .i64 m6, .int .i64 m7, .int .i64 m8] 69))
      rw [← hw21] at HL HR HC HB
      clear hw21 hGS
      obtain ⟨⟨q0, q1, q2, q3, q4, q5, q6, q7, q8, q9, q10, q11⟩, _, zS⟩ := HS.out
      obtain ⟨_, ⟨f0, f1, f2, f3, f4, f5, f6, f7, f8, f9, f10, f11⟩, zL⟩ := HL.out
      go_wp2_with fail
      go_roundw
      case rel => exact ⟨rest, a, b, c, m0, m1, m2, m3, m4, m5, m6, m7, m8, HL2.out, ((((((((((((HC.out.far ⟨GL, 0, none⟩ (.int .i64 a) (by show GC ≠ GL; exact Ne.symm ne_L_C)).far ⟨GL, 1, none⟩ (.int .i64 b) (by show GC ≠ GL; exact Ne.symm ne_L_C)).far ⟨GL, 2, none⟩ (.int .i64 c) (by show GC ≠ GL; exact Ne.symm ne_L_C)).far ⟨GL, 3, none⟩ (.int .i64 m0) (by show GC ≠ GL; exact Ne.symm ne_L_C)).far ⟨GL, 4, none⟩ (.int .i64 m1) (by show GC ≠ GL; exact Ne.symm ne_L_C)).far ⟨GL, 5, none⟩ (.int .i64 m2) (by show GC ≠ GL; exact Ne.symm ne_L_C)).far ⟨GL, 6, none⟩ (.int .i64 m3) (by show GC ≠ GL; exact Ne.symm ne_L_C)).far ⟨GL, 7, none⟩ (.int .i64 m4) (by show GC ≠ GL; exact Ne.symm ne_L_C)).far ⟨GL, 8, none⟩ (.int .i64 m5) (by show GC ≠ GL; exact Ne.symm ne_L_C)).far ⟨GL, 9, none⟩ (.int .i64 m6) (by show GC ≠ GL; exact Ne.symm ne_L_C)).far ⟨GL, 10, none⟩ (.int .i64 m7) (by show GC ≠ GL; exact Ne.symm ne_L_C)).far ⟨GL, 11, none⟩ (.int .i64 m8) (by show GC ≠ GL; exact Ne.symm ne_L_C)), ((((((((((((HL.out.set0 a).set1 b).set2 c).set3 m0).set4 m1).set5 m2).set6 m3).set7 m4).set8 m5).set9 m6).set10 m7).set11 m8), ((((((((((((HR.out.far ⟨GL, 0, none⟩ (.int .i64 a) (by show GR ≠ GL; exact ne_R_L)).far ⟨GL, 1, none⟩ (.int .i64 b) (by show GR ≠ GL; exact ne_R_L)).far ⟨GL, 2, none⟩ (.int .i64 c) (by show GR ≠ GL; exact ne_R_L)).far ⟨GL, 3, none⟩ (.int .i64 m0) (by show GR ≠ GL; exact ne_R_L)).far ⟨GL, 4, none⟩ (.int .i64 m1) (by show GR ≠ GL; exact ne_R_L)).far ⟨GL, 5, none⟩ (.int .i64 m2) (by show GR ≠ GL; exact ne_R_L)).far ⟨GL, 6, none⟩ (.int .i64 m3) (by show GR ≠ GL; exact ne_R_L)).far ⟨GL, 7, none⟩ (.int .i64 m4) (by show GR ≠ GL; exact ne_R_L)).far ⟨GL, 8, none⟩ (.int .i64 m5) (by show GR ≠ GL; exact ne_R_L)).far ⟨GL, 9, none⟩ (.int .i64 m6) (by show GR ≠ GL; exact ne_R_L)).far ⟨GL, 10, none⟩ (.int .i64 m7) (by show GR ≠ GL; exact ne_R_L)).far ⟨GL, 11, none⟩ (.int .i64 m8) (by show GR ≠ GL; exact ne_R_L)), (Below.setCell (Below.setCell (Below.setCell (Below.setCell (Below.setCell (Below.setCell (Below.setCell (Below.setCell (Below.setCell (Below.setCell (Below.setCell (Below.setCell HB.out (p := ⟨GL, 0, none⟩) le_L (.int .i64 a)) (p := ⟨GL, 1, none⟩) le_L (.int .i64 b)) (p := ⟨GL, 2, none⟩) le_L (.int .i64 c)) (p := ⟨GL, 3, none⟩) le_L (.int .i64 m0)) (p := ⟨GL, 4, none⟩) le_L (.int .i64 m1)) (p := ⟨GL, 5, none⟩) le_L (.int .i64 m2)) (p := ⟨GL, 6, none⟩) le_L (.int .i64 m3)) (p := ⟨GL, 7, none⟩) le_L (.int .i64 m4)) (p := ⟨GL, 8, none⟩) le_L (.int .i64 m5)) (p := ⟨GL, 9, none⟩) le_L (.int .i64 m6)) (p := ⟨GL, 10, none⟩) le_L (.int .i64 m7)) (p := ⟨GL, 11, none⟩) le_L (.int .i64 m8))⟩
      case measure =>
        have e := Chn.len ((((((((((((HC.out.far ⟨GL, 0, none⟩ (.int .i64 a) (by show GC ≠ GL; exact Ne.symm ne_L_C)).far ⟨GL, 1, none⟩ (.int .i64 b) (by show GC ≠ GL; exact Ne.symm ne_L_C)).far ⟨GL, 2, none⟩ (.int .i64 c) (by show GC ≠ GL; exact Ne.symm ne_L_C)).far ⟨GL, 3, none⟩ (.int .i64 m0) (by show GC ≠ GL; exact Ne.symm ne_L_C)).far ⟨GL, 4, none⟩ (.int .i64 m1) (by show GC ≠ GL; exact Ne.symm ne_L_C)).far ⟨GL, 5, none⟩ (.int .i64 m2) (by show GC ≠ GL; exact Ne.symm ne_L_C)).far ⟨GL, 6, none⟩ (.int .i64 m3) (by show GC ≠ GL; exact Ne.symm ne_L_C)).far ⟨GL, 7, none⟩ (.int .i64 m4) (by show GC ≠ GL; exact Ne.symm ne_L_C)).far ⟨GL, 8, none⟩ (.int .i64 m5) (by show GC ≠ GL; exact Ne.symm ne_L_C)).far ⟨GL, 9, none⟩ (.int .i64 m6) (by show GC ≠ GL; exact Ne.symm ne_L_C)).far ⟨GL, 10, none⟩ (.int .i64 m7) (by show GC ≠ GL; exact Ne.symm ne_L_C)).far ⟨GL, 11, none⟩ (.int .i64 m8) (by show GC ≠ GL; exact Ne.symm ne_L_C))
        have h := HME.out
        rw [HCN.out] at h
        rw [e]
        exact h
theorem rcd_cases (a b c r n : Int) : (rcd a b c r n = 0 ∧ isSt a b c = true ∧ ∃ k m : Nat, r = (k : Int) ∧ k < 4 ∧ n = (m : Int) ∧ m ≤ 300) ∨ ((rcd a b c r n == 0) = false ∧ rcd a b c r n ≠ 0) := by
  unfold rcd
  by_cases h : isSt a b c = true
  · rw [if_pos h]
    by_cases h2 : (0 ≤ r ∧ r < 4) ∧ (0 ≤ n ∧ n ≤ 300)
    · rw [if_pos h2]
      exact .inl ⟨rfl, h, r.toNat, n.toNat, by omega, by omega, by omega, by omega⟩
    · rw [if_neg h2]
      exact .inr ⟨by decide, by decide⟩
  · rw [if_neg h]
    exact .inr ⟨by decide, by decide⟩
def runV (a b c r n : Int) : List T3 := if rcd a b c r n = 0 then runT r.toNat n.toNat (a, b, c) else []
theorem impl_RunTriple_any (a b c r n : Int) (w : World) : Calls Try.prog 27 #[.agg #[.int .i64 a, .int .i64 b, .int .i64 c], .int .i64 r, .int .i64 n] w fun e w' => ∃ v, e = .returned (.tuple #[v, .int .i64 (rcd a b c r n)]) ∧ OwnT w.heap.size w' v (runV a b c r n) ∧ Below w.heap.size w w' := by
  rcases rcd_cases a b c r n with ⟨h0, hs, k, m, rfl, hk, rfl, hm⟩ | ⟨h0, h1⟩
  · unfold runV
    rw [if_pos h0, h0]
    exact RunTriple_ok k hk m hm a b c hs w
  · have HCODE := Lib.hid (fun w => codeOfRun_any a b c r n w)
    unfold runV
    rw [if_neg h1]
    obtain ⟨K, hK⟩ : ∃ K, rcd a b c r n = K := ⟨_, rfl⟩
    rw [hK] at HCODE h0 h1 ⊢
    clear hK h1
    obtain ⟨GT, hG⟩ : ∃ G, w.heap.size = G := ⟨_, rfl⟩
    have HG := Lib.hid hG
    go_enter Try.func27, Try.ntmps27
    go_upto_region 1 with fail
    obtain ⟨w0, hw0⟩ : ∃ w0, w0 = (w.alloc (.cells #[.int .i64 a, .int .i64 b, .int .i64 c] 24)) := ⟨_, rfl⟩
    rw [← hw0]
    have HT : Hid (Bk3 w0 GT a b c) := by
      have h := (bk3_new w a b c 24).below (W' := (w.alloc (.cells #[.int .i64 a, .int .i64 b, .int .i64 c] 24))) (by (repeat' (first | (with_reducible exact Below.refl _ _) | (with_reducible refine Below.alloc ?_ ?_ _) | (with_reducible refine Below.setCell ?_ ?_ _) | (with_reducible refine Below.drew ?_) | (with_reducible refine below_drewN ?_ _) | (with_reducible assumption) | (with_reducible refine below_after (by with_reducible assumption) ?_) | go_size)))
      (try simp only [World.size_alloc] at h)
      rw [hG] at h
      rw [hw0]; exact h
    have HB : Hid (Below w.heap.size w w0) := by show Below w.heap.size w w0; rw [hw0]; (repeat' (first | (with_reducible exact Below.refl _ _) | (with_reducible refine Below.alloc ?_ ?_ _) | (with_reducible refine Below.setCell ?_ ?_ _) | (with_reducible refine Below.drew ?_) | (with_reducible refine below_drewN ?_ _) | (with_reducible assumption) | (with_reducible refine below_after (by with_reducible assumption) ?_) | go_size))
    clear hw0
    have le_T : w.heap.size ≤ GT := by omega
    obtain ⟨⟨qT0, qT1, qT2⟩, ⟨fT0, fT1, fT2⟩, zT⟩ := HT.out
    go_wp2_with fail
    go_at_call 61
    refine (HCODE.out _).mono ?_
    rintro e w1 ⟨rfl, hb⟩
    clear qT0 fT0 qT1 fT1 qT2 fT2 zT
    have HT := Lib.hid (HT.out.below hb)
    have HB := Lib.hid (below_after hb HB.out)
    clear hb
    obtain ⟨⟨qT0, qT1, qT2⟩, ⟨fT0, fT1, fT2⟩, zT⟩ := HT.out
    go_wp2_with fail
    refine bodyPost_ret (v := .tuple #[.slice none 0 0, .int .i64 K]) (by simp (maxDischargeDepth := 8) [results, Try.results27, go_sem, *]) rfl ?_
    have hb := HB.out
    exact ⟨_, rfl, World.ownsRow_nil _ _ _ _, by (repeat' (first | (with_reducible exact Below.refl _ _) | (with_reducible refine Below.alloc ?_ ?_ _) | (with_reducible refine Below.setCell ?_ ?_ _) | (with_reducible refine Below.drew ?_) | (with_reducible refine below_drewN ?_ _) | (with_reducible assumption) | (with_reducible refine below_after (by with_reducible assumption) ?_) | go_size))⟩
/-- A triple that has ended is left by its step. -/
theorem stT_ended (k : Nat) (a b c : Int) (hk : k < 4) (hs : isSt a b c = true) (he : rEnd k b c = true) : stT k a b c = (a, b, c) := by
  obtain ⟨_, a1, a2, b0, b1, c0, c1⟩ := isSt_parts hs
  unfold stT st3
  match k, hk with
  | 0, _ =>
    have hb : b = 0 := by simpa [rEnd] using he
    simp only [rSub]
    rw [st3_same (by omega) (by omega)]
    simp only [at3, pk, Prod.mk.injEq, and_true]
    omega
  | 1, _ =>
    have hb : c = 0 := by simpa [rEnd] using he
    simp only [rSub]
    rw [st3_same (by omega) (by omega)]
    simp only [at3, pk, Prod.mk.injEq, and_true]
    omega
  | 2, _ =>
    have hb : b = 0 := by simpa [rEnd] using he
    simp only [rSub]
    rw [st3_same (by omega) (by omega)]
    simp only [at3, pk, Prod.mk.injEq, and_true]
    omega
  | 3, _ =>
    have hb : c = 0 := by simpa [rEnd] using he
    simp only [rSub]
    rw [st3_same (by omega) (by omega)]
    simp only [at3, pk, Prod.mk.injEq, and_true]
    omega
theorem last_one (k : Nat) (a b c : Int) (hk : k < 4) (hs : isSt a b c = true) : (lastF s00 (runL k 1 (s0S (a, b, c)))).1 = stT k a b c := by
  cases he : enT k (a, b, c)
  · rw [runL_next (k := k) (n := 1) (s := s0S (a, b, c)) (by decide) he]
    rfl
  · rw [runL_end (k := k) (n := 1) (s := s0S (a, b, c)) (Or.inr he)]
    exact (stT_ended k a b c hk hs he).symm
def stpV (a b c r : Int) : T3 := if rcd a b c r 1 = 0 then stT r.toNat a b c else (0, 0, 0)
set_option maxHeartbeats 3200000 in
theorem impl_StepTriple_any (a b c r : Int) (w : World) : Calls Try.prog 23 #[.agg #[.int .i64 a, .int .i64 b, .int .i64 c], .int .i64 r] w fun e w' => e = .returned (.tuple #[.agg #[.int .i64 ((stpV a b c r).1), .int .i64 ((stpV a b c r).2.1), .int .i64 ((stpV a b c r).2.2)], .int .i64 (rcd a b c r 1)]) ∧ Below w.heap.size w w' := by
  have HCODE := Lib.hid (fun w => codeOfRun_any a b c r 1 w)
  unfold stpV
  rcases rcd_cases a b c r 1 with ⟨h0, hs, k, m, rfl, hk, hm1, hm⟩ | ⟨h0, h1⟩
  · rw [if_pos h0, h0, Int.toNat_natCast]
    rw [h0] at HCODE
    have HRUL := Lib.hid (fun w => ruleOf_b k w hk)
    have HLS := Lib.hid (fun w => lastStation_any k hk 1 (by omega) a b c hs w)
    rw [← last_one k a b c hk hs]
    obtain ⟨⟨⟨x0, x1, x2⟩, ⟨x3, x4, x5⟩, ⟨x6, x7, x8⟩, ⟨x9, x10, x11⟩⟩, hL⟩ : ∃ L, lastF s00 (runL k 1 (s0S (a, b, c))) = L := ⟨_, rfl⟩
    rw [hL] at HLS ⊢
    have HLS : Hid (∀ w, Calls Try.prog 62 #[.agg #[.int .i64 a, .int .i64 b, .int .i64 c], .iface (rt k) (.agg #[]), .int .i64 1] w fun e w' => e = .returned (.agg #[.int .i64 x0, .int .i64 x1, .int .i64 x2, .int .i64 x3, .int .i64 x4, .int .i64 x5, .int .i64 x6, .int .i64 x7, .int .i64 x8, .int .i64 x9, .int .i64 x10, .int .i64 x11]) ∧ Below w.heap.size w w') := HLS
    obtain ⟨T, hT⟩ : ∃ T, rt k = T := ⟨_, rfl⟩
    rw [hT] at HRUL HLS
    have hfld : ∀ W : World, (Instr.field 69 (.agg #[.int .i64 x0, .int .i64 x1, .int .i64 x2, .int .i64 x3, .int .i64 x4, .int .i64 x5, .int .i64 x6, .int .i64 x7, .int .i64 x8, .int .i64 x9, .int .i64 x10, .int .i64 x11]) 0).run Try.prog W = .ok (.agg #[.int .i64 x0, .int .i64 x1, .int .i64 x2]) W := fun _ => by kernel_rfl
    clear hL hT hs hk h0 hm1 hm
    obtain ⟨GT, hG⟩ : ∃ G, w.heap.size = G := ⟨_, rfl⟩
    have HG := Lib.hid hG
    go_enter Try.func23, Try.ntmps23
    go_upto_region 1 with fail
    obtain ⟨w0, hw0⟩ : ∃ w0, w0 = ((w.alloc (.cells #[.int .i64 a, .int .i64 b, .int .i64 c] 24)).alloc (.cells #[.int .i64 0, .int .i64 0, .int .i64 0] 24)) := ⟨_, rfl⟩
    rw [← hw0]
    have HT : Hid (Bk3 w0 GT a b c) := by
      have h := (bk3_new w a b c 24).below (W' := ((w.alloc (.cells #[.int .i64 a, .int .i64 b, .int .i64 c] 24)).alloc (.cells #[.int .i64 0, .int .i64 0, .int .i64 0] 24))) (by (repeat' (first | (with_reducible exact Below.refl _ _) | (with_reducible refine Below.alloc ?_ ?_ _) | (with_reducible refine Below.setCell ?_ ?_ _) | (with_reducible refine Below.drew ?_) | (with_reducible refine below_drewN ?_ _) | (with_reducible assumption) | (with_reducible refine below_after (by with_reducible assumption) ?_) | go_size)))
      (try simp only [World.size_alloc] at h)
      rw [hG] at h
      rw [hw0]; exact h
    have HR : Hid (Bk3 w0 (GT + 1) 0 0 0) := by
      have h := (bk3_new (w.alloc (.cells #[.int .i64 a, .int .i64 b, .int .i64 c] 24)) 0 0 0 24).below (W' := ((w.alloc (.cells #[.int .i64 a, .int .i64 b, .int .i64 c] 24)).alloc (.cells #[.int .i64 0, .int .i64 0, .int .i64 0] 24))) (by (repeat' (first | (with_reducible exact Below.refl _ _) | (with_reducible refine Below.alloc ?_ ?_ _) | (with_reducible refine Below.setCell ?_ ?_ _) | (with_reducible refine Below.drew ?_) | (with_reducible refine below_drewN ?_ _) | (with_reducible assumption) | (with_reducible refine below_after (by with_reducible assumption) ?_) | go_size)))
      (try simp only [World.size_alloc] at h)
      rw [hG] at h
      rw [hw0]; exact h
    have HB : Hid (Below w.heap.size w w0) := by show Below w.heap.size w w0; rw [hw0]; (repeat' (first | (with_reducible exact Below.refl _ _) | (with_reducible refine Below.alloc ?_ ?_ _) | (with_reducible refine Below.setCell ?_ ?_ _) | (with_reducible refine Below.drew ?_) | (with_reducible refine below_drewN ?_ _) | (with_reducible assumption) | (with_reducible refine below_after (by with_reducible assumption) ?_) | go_size))
    clear hw0
    obtain ⟨GR, hGR⟩ : ∃ g, GT + 1 = g := ⟨_, rfl⟩
    rw [hGR] at HR ⊢
    have le_T : w.heap.size ≤ GT := by omega
    have le_R : w.heap.size ≤ GR := by omega
    have ne_R_T : GR ≠ GT := by omega
    have ne_T_R : GT ≠ GR := by omega
    clear hGR
    obtain ⟨⟨qT0, qT1, qT2⟩, ⟨fT0, fT1, fT2⟩, zT⟩ := HT.out
    obtain ⟨⟨qR0, qR1, qR2⟩, ⟨fR0, fR1, fR2⟩, zR⟩ := HR.out
    go_wp2_with fail
    go_at_call 61
    refine (HCODE.out _).mono ?_
    rintro e w1 ⟨rfl, hb⟩
    clear qT0 fT0 qT1 fT1 qT2 fT2 zT qR0 fR0 qR1 fR1 qR2 fR2 zR
    have HT := Lib.hid (HT.out.below hb)
    have HR := Lib.hid (HR.out.below hb)
    have HB := Lib.hid (below_after hb HB.out)
    clear hb
    go_wp2_with fail
    refine wp_region_held_drew (S := fun W => Below w.heap.size w W ∧ Bk3 W GT a b c) (by kernel_rfl) ?_ (fun hHeld => ?_); focus ((try dsimp only); exact ⟨Below.drew HB.out, HT.out.below (Below.drew (Below.refl _ _))⟩)
    have HT := Lib.hid (HT.out.below (Below.drew (Below.refl _ _)))
    have HR := Lib.hid (HR.out.below (Below.drew (Below.refl _ _)))
    have hHeld : (fun W => Below w.heap.size w W ∧ Bk3 W GT a b c) _ := hHeld
    obtain ⟨wD1, hwD1⟩ : ∃ wD, w1.drew = wD := ⟨_, rfl⟩
    rw [hwD1] at hHeld HT HR ⊢
    clear hwD1
    (refine wpAnyH_take (i := 0) (v := ?_) rfl (by kernel_rfl) (by kernel_rfl) (by kernel_rfl) (fun _ _ _ h => h) (Or.inl ⟨rfl, ?_⟩) (by assumption) ?_; rotate_left; focus (intro W hSw; (try dsimp only at hSw); obtain ⟨hSb, hxT⟩ := hSw; obtain ⟨⟨iT0, iT1, iT2⟩, _, _⟩ := hxT; go_simp; try (with_reducible rfl))); (try simp only [Act.put, List.getElem_toArray, List.getElem_cons_succ, List.getElem_cons_zero, List.setIfInBounds_toArray, List.set_cons_zero, List.set_cons_succ])
    (refine wpAnyH_take (i := 1) (v := ?_) rfl (by kernel_rfl) (by kernel_rfl) (by kernel_rfl) (fun _ _ _ h => h) (Or.inl ⟨rfl, ?_⟩) (by assumption) ?_; rotate_left; focus (intro W hSw; (try dsimp only at hSw); obtain ⟨hSb, hxT⟩ := hSw; obtain ⟨⟨iT0, iT1, iT2⟩, _, _⟩ := hxT; go_simp; try (with_reducible rfl))); (try simp only [Act.put, List.getElem_toArray, List.getElem_cons_succ, List.getElem_cons_zero, List.setIfInBounds_toArray, List.set_cons_zero, List.set_cons_succ])
    refine wpAnyH_ready (rs := [2]) (by kernel_rfl) (by simp) ?_; refine AllReadyH.cons rfl (fun K hK => ?_) AllReadyH.nil
    go_simp; (go_at_call 63; refine (HRUL.out _).mono ?_; rintro en ywr1x0 ⟨rfl, hb2⟩); have HT := Lib.hid (HT.out.below hb2); have HR := Lib.hid (HR.out.below hb2); refine hK.out _ _ ⟨below_after hb2 hHeld.1, HT.out⟩ (fun hHeld2 => ?_); clear hb2; (clear hHeld; rename _ => hHeld; clear hK K; have hHeld : (fun W => Below w.heap.size w W ∧ Bk3 W GT a b c) _ := hHeld); (try simp only [Act.put, List.getElem_toArray, List.getElem_cons_succ, List.getElem_cons_zero, List.setIfInBounds_toArray, List.set_cons_zero, List.set_cons_succ])
    refine wpAnyH_ready (rs := [3]) (by kernel_rfl) (by simp) ?_; refine AllReadyH.cons rfl (fun K hK => ?_) AllReadyH.nil
    go_simp; (go_at_call 62; refine (HLS.out _).mono ?_; rintro en ywr1x1 ⟨rfl, hb2⟩); have HT := Lib.hid (HT.out.below hb2); have HR := Lib.hid (HR.out.below hb2); refine hK.out _ _ ⟨below_after hb2 hHeld.1, HT.out⟩ (fun hHeld2 => ?_); clear hb2; (clear hHeld; rename _ => hHeld; clear hK K; have hHeld : (fun W => Below w.heap.size w W ∧ Bk3 W GT a b c) _ := hHeld); (try simp only [Act.put, List.getElem_toArray, List.getElem_cons_succ, List.getElem_cons_zero, List.setIfInBounds_toArray, List.set_cons_zero, List.set_cons_succ])
    (refine wpAnyH_take (i := 4) (v := ?_) rfl (by kernel_rfl) (by kernel_rfl) (by kernel_rfl) (fun _ _ _ h => h) (Or.inl ⟨rfl, ?_⟩) (by assumption) ?_; rotate_left; focus (intro W hSw; (try dsimp only at hSw); obtain ⟨hSb, hxT⟩ := hSw; obtain ⟨⟨iT0, iT1, iT2⟩, _, _⟩ := hxT; go_simp; try (with_reducible rfl))); (try simp only [Act.put, List.getElem_toArray, List.getElem_cons_succ, List.getElem_cons_zero, List.setIfInBounds_toArray, List.set_cons_zero, List.set_cons_succ])
    refine wpAnyH_ready (rs := [5]) (by kernel_rfl) (by simp) ?_; refine AllReadyH.cons rfl (fun K hK => ?_) AllReadyH.nil
    obtain ⟨⟨a0, a1, a2⟩, ⟨f0, f1, f2⟩, az⟩ := HR.out; go_simp; clear a0 f0 a1 f1 a2 f2 az
    have HT := Lib.hid (((HT.out.far ⟨GR, 0, none⟩ (.int .i64 x0) (by show GT ≠ GR; exact ne_T_R)).far ⟨GR, 1, none⟩ (.int .i64 x1) (by show GT ≠ GR; exact ne_T_R)).far ⟨GR, 2, none⟩ (.int .i64 x2) (by show GT ≠ GR; exact ne_T_R))
    have HR := Lib.hid (((HR.out.set0 x0).set1 x1).set2 x2)
    refine hK.out _ _ ⟨(Below.setCell (Below.setCell (Below.setCell hHeld.1 (p := ⟨GR, 0, none⟩) le_R _) (p := ⟨GR, 1, none⟩) le_R _) (p := ⟨GR, 2, none⟩) le_R _), HT.out⟩ (fun hHeld2 => ?_); (clear hHeld; rename _ => hHeld; clear hK K; have hHeld : (fun W => Below w.heap.size w W ∧ Bk3 W GT a b c) _ := hHeld); (try simp only [Act.put, List.getElem_toArray, List.getElem_cons_succ, List.getElem_cons_zero, List.setIfInBounds_toArray, List.set_cons_zero, List.set_cons_succ])
    obtain ⟨ywr1x2, hwx⟩ : ∃ wx, ((ywr1x1.setCell ⟨GR, 0, none⟩ (.int .i64 x0)).setCell ⟨GR, 1, none⟩ (.int .i64 x1)).setCell ⟨GR, 2, none⟩ (.int .i64 x2) = wx := ⟨_, rfl⟩; rw [hwx] at HT HR hHeld ⊢; clear hwx
    (refine wpAnyH_take (i := 6) (v := ?_) rfl (by kernel_rfl) (by kernel_rfl) (by kernel_rfl) (fun _ _ _ h => h) (Or.inl ⟨rfl, ?_⟩) (by assumption) ?_; rotate_left; focus (intro W hSw; (try dsimp only at hSw); obtain ⟨hSb, hxT⟩ := hSw; obtain ⟨⟨iT0, iT1, iT2⟩, _, _⟩ := hxT; go_simp; try (with_reducible rfl))); (try simp only [Act.put, List.getElem_toArray, List.getElem_cons_succ, List.getElem_cons_zero, List.setIfInBounds_toArray, List.set_cons_zero, List.set_cons_succ])
    refine wpAnyH_done (by kernel_rfl) ?_ _
    have HB := Lib.hid (hHeld.1)
    clear hHeld
    obtain ⟨⟨qT0, qT1, qT2⟩, ⟨fT0, fT1, fT2⟩, zT⟩ := HT.out
    obtain ⟨⟨qR0, qR1, qR2⟩, ⟨fR0, fR1, fR2⟩, zR⟩ := HR.out
    go_wp2_with fail
    refine bodyPost_ret (v := .tuple #[.agg #[.int .i64 x0, .int .i64 x1, .int .i64 x2], .int .i64 0]) (by simp (maxDischargeDepth := 8) [results, Try.results23, go_sem, *]) rfl ?_
    have hb := HB.out
    exact ⟨rfl, by (repeat' (first | (with_reducible exact Below.refl _ _) | (with_reducible refine Below.alloc ?_ ?_ _) | (with_reducible refine Below.setCell ?_ ?_ _) | (with_reducible refine Below.drew ?_) | (with_reducible refine below_drewN ?_ _) | (with_reducible assumption) | (with_reducible refine below_after (by with_reducible assumption) ?_) | go_size))⟩
  · rw [if_neg h1]
    obtain ⟨K, hK⟩ : ∃ K, rcd a b c r 1 = K := ⟨_, rfl⟩
    rw [hK] at HCODE h0 h1 ⊢
    clear hK h1
    obtain ⟨GT, hG⟩ : ∃ G, w.heap.size = G := ⟨_, rfl⟩
    have HG := Lib.hid hG
    go_enter Try.func23, Try.ntmps23
    go_upto_region 1 with fail
    obtain ⟨w0, hw0⟩ : ∃ w0, w0 = ((w.alloc (.cells #[.int .i64 a, .int .i64 b, .int .i64 c] 24)).alloc (.cells #[.int .i64 0, .int .i64 0, .int .i64 0] 24)) := ⟨_, rfl⟩
    rw [← hw0]
    have HT : Hid (Bk3 w0 GT a b c) := by
      have h := (bk3_new w a b c 24).below (W' := ((w.alloc (.cells #[.int .i64 a, .int .i64 b, .int .i64 c] 24)).alloc (.cells #[.int .i64 0, .int .i64 0, .int .i64 0] 24))) (by (repeat' (first | (with_reducible exact Below.refl _ _) | (with_reducible refine Below.alloc ?_ ?_ _) | (with_reducible refine Below.setCell ?_ ?_ _) | (with_reducible refine Below.drew ?_) | (with_reducible refine below_drewN ?_ _) | (with_reducible assumption) | (with_reducible refine below_after (by with_reducible assumption) ?_) | go_size)))
      (try simp only [World.size_alloc] at h)
      rw [hG] at h
      rw [hw0]; exact h
    have HR : Hid (Bk3 w0 (GT + 1) 0 0 0) := by
      have h := (bk3_new (w.alloc (.cells #[.int .i64 a, .int .i64 b, .int .i64 c] 24)) 0 0 0 24).below (W' := ((w.alloc (.cells #[.int .i64 a, .int .i64 b, .int .i64 c] 24)).alloc (.cells #[.int .i64 0, .int .i64 0, .int .i64 0] 24))) (by (repeat' (first | (with_reducible exact Below.refl _ _) | (with_reducible refine Below.alloc ?_ ?_ _) | (with_reducible refine Below.setCell ?_ ?_ _) | (with_reducible refine Below.drew ?_) | (with_reducible refine below_drewN ?_ _) | (with_reducible assumption) | (with_reducible refine below_after (by with_reducible assumption) ?_) | go_size)))
      (try simp only [World.size_alloc] at h)
      rw [hG] at h
      rw [hw0]; exact h
    have HB : Hid (Below w.heap.size w w0) := by show Below w.heap.size w w0; rw [hw0]; (repeat' (first | (with_reducible exact Below.refl _ _) | (with_reducible refine Below.alloc ?_ ?_ _) | (with_reducible refine Below.setCell ?_ ?_ _) | (with_reducible refine Below.drew ?_) | (with_reducible refine below_drewN ?_ _) | (with_reducible assumption) | (with_reducible refine below_after (by with_reducible assumption) ?_) | go_size))
    clear hw0
    obtain ⟨GR, hGR⟩ : ∃ g, GT + 1 = g := ⟨_, rfl⟩
    rw [hGR] at HR ⊢
    have le_T : w.heap.size ≤ GT := by omega
    have le_R : w.heap.size ≤ GR := by omega
    have ne_R_T : GR ≠ GT := by omega
    have ne_T_R : GT ≠ GR := by omega
    clear hGR
    obtain ⟨⟨qT0, qT1, qT2⟩, ⟨fT0, fT1, fT2⟩, zT⟩ := HT.out
    obtain ⟨⟨qR0, qR1, qR2⟩, ⟨fR0, fR1, fR2⟩, zR⟩ := HR.out
    go_wp2_with fail
    go_at_call 61
    refine (HCODE.out _).mono ?_
    rintro e w1 ⟨rfl, hb⟩
    clear qT0 fT0 qT1 fT1 qT2 fT2 zT qR0 fR0 qR1 fR1 qR2 fR2 zR
    have HT := Lib.hid (HT.out.below hb)
    have HR := Lib.hid (HR.out.below hb)
    have HB := Lib.hid (below_after hb HB.out)
    clear hb
    obtain ⟨⟨qT0, qT1, qT2⟩, ⟨fT0, fT1, fT2⟩, zT⟩ := HT.out
    obtain ⟨⟨qR0, qR1, qR2⟩, ⟨fR0, fR1, fR2⟩, zR⟩ := HR.out
    go_wp2_with fail
    refine bodyPost_ret (v := .tuple #[.agg #[.int .i64 0, .int .i64 0, .int .i64 0], .int .i64 K]) (by simp (maxDischargeDepth := 8) [results, Try.results23, go_sem, *]) rfl ?_
    have hb := HB.out
    exact ⟨rfl, by (repeat' (first | (with_reducible exact Below.refl _ _) | (with_reducible refine Below.alloc ?_ ?_ _) | (with_reducible refine Below.setCell ?_ ?_ _) | (with_reducible refine Below.drew ?_) | (with_reducible refine below_drewN ?_ _) | (with_reducible assumption) | (with_reducible refine below_after (by with_reducible assumption) ?_) | go_size))⟩
def heV (a b c r : Int) : Bool := if rcd a b c r 0 = 0 then rEnd r.toNat b c else false
set_option maxHeartbeats 3200000 in
theorem impl_HasEnded_any (a b c r : Int) (w : World) : Calls Try.prog 25 #[.agg #[.int .i64 a, .int .i64 b, .int .i64 c], .int .i64 r] w fun e w' => e = .returned (.tuple #[.bool (heV a b c r), .int .i64 (rcd a b c r 0)]) ∧ Below w.heap.size w w' := by
  have HCODE := Lib.hid (fun w => codeOfRun_any a b c r 0 w)
  unfold heV
  rcases rcd_cases a b c r 0 with ⟨h0, hs, k, m, rfl, hk, hm1, hm⟩ | ⟨h0, h1⟩
  · rw [if_pos h0, h0, Int.toNat_natCast]
    rw [h0] at HCODE
    have HRUL := Lib.hid (fun w => ruleOf_b k w hk)
    obtain ⟨FE, hmE, hcE, hE⟩ := inv_end k hk
    have HE := Lib.hid (fun w => hE a b c w trivial)
    obtain ⟨E, hEq⟩ : ∃ E, rEnd k b c = E := ⟨_, rfl⟩
    rw [hEq] at HE ⊢
    obtain ⟨T, hT⟩ : ∃ T, rt k = T := ⟨_, rfl⟩
    rw [hT] at HRUL hmE
    clear hT hs hk h0 hm1 hm hE hEq
    obtain ⟨GT, hG⟩ : ∃ G, w.heap.size = G := ⟨_, rfl⟩
    have HG := Lib.hid hG
    go_enter Try.func25, Try.ntmps25
    go_upto_region 1 with fail
    obtain ⟨w0, hw0⟩ : ∃ w0, w0 = (w.alloc (.cells #[.int .i64 a, .int .i64 b, .int .i64 c] 24)) := ⟨_, rfl⟩
    rw [← hw0]
    have HT : Hid (Bk3 w0 GT a b c) := by
      have h := (bk3_new w a b c 24).below (W' := (w.alloc (.cells #[.int .i64 a, .int .i64 b, .int .i64 c] 24))) (by (repeat' (first | (with_reducible exact Below.refl _ _) | (with_reducible refine Below.alloc ?_ ?_ _) | (with_reducible refine Below.setCell ?_ ?_ _) | (with_reducible refine Below.drew ?_) | (with_reducible refine below_drewN ?_ _) | (with_reducible assumption) | (with_reducible refine below_after (by with_reducible assumption) ?_) | go_size)))
      (try simp only [World.size_alloc] at h)
      rw [hG] at h
      rw [hw0]; exact h
    have HB : Hid (Below w.heap.size w w0) := by show Below w.heap.size w w0; rw [hw0]; (repeat' (first | (with_reducible exact Below.refl _ _) | (with_reducible refine Below.alloc ?_ ?_ _) | (with_reducible refine Below.setCell ?_ ?_ _) | (with_reducible refine Below.drew ?_) | (with_reducible refine below_drewN ?_ _) | (with_reducible assumption) | (with_reducible refine below_after (by with_reducible assumption) ?_) | go_size))
    clear hw0
    have le_T : w.heap.size ≤ GT := by omega
    obtain ⟨⟨qT0, qT1, qT2⟩, ⟨fT0, fT1, fT2⟩, zT⟩ := HT.out
    go_wp2_with fail
    go_at_call 61
    refine (HCODE.out _).mono ?_
    rintro e w1 ⟨rfl, hb⟩
    clear qT0 fT0 qT1 fT1 qT2 fT2 zT
    have HT := Lib.hid (HT.out.below hb)
    have HB := Lib.hid (below_after hb HB.out)
    clear hb
    go_wp2_with fail
    refine wp_region_held_drew (S := fun W => Below w.heap.size w W ∧ Bk3 W GT a b c) (by kernel_rfl) ?_ (fun hHeld => ?_); focus ((try dsimp only); exact ⟨Below.drew HB.out, HT.out.below (Below.drew (Below.refl _ _))⟩)
    have HT := Lib.hid (HT.out.below (Below.drew (Below.refl _ _)))
    have hHeld : (fun W => Below w.heap.size w W ∧ Bk3 W GT a b c) _ := hHeld
    obtain ⟨wD1, hwD1⟩ : ∃ wD, w1.drew = wD := ⟨_, rfl⟩
    rw [hwD1] at hHeld HT ⊢
    clear hwD1
    (refine wpAnyH_take (i := 0) (v := ?_) rfl (by kernel_rfl) (by kernel_rfl) (by kernel_rfl) (fun _ _ _ h => h) (Or.inl ⟨rfl, ?_⟩) (by assumption) ?_; rotate_left; focus (intro W hSw; (try dsimp only at hSw); obtain ⟨hSb, hxT⟩ := hSw; obtain ⟨⟨iT0, iT1, iT2⟩, _, _⟩ := hxT; go_simp; try (with_reducible rfl))); (try simp only [Act.put, List.getElem_toArray, List.getElem_cons_succ, List.getElem_cons_zero, List.setIfInBounds_toArray, List.set_cons_zero, List.set_cons_succ])
    (refine wpAnyH_take (i := 2) (v := ?_) rfl (by kernel_rfl) (by kernel_rfl) (by kernel_rfl) (fun _ _ _ h => h) (Or.inl ⟨rfl, ?_⟩) (by assumption) ?_; rotate_left; focus (intro W hSw; (try dsimp only at hSw); obtain ⟨hSb, hxT⟩ := hSw; obtain ⟨⟨iT0, iT1, iT2⟩, _, _⟩ := hxT; go_simp; try (with_reducible rfl))); (try simp only [Act.put, List.getElem_toArray, List.getElem_cons_succ, List.getElem_cons_zero, List.setIfInBounds_toArray, List.set_cons_zero, List.set_cons_succ])
    refine wpAnyH_ready (rs := [1]) (by kernel_rfl) (by simp) ?_; refine AllReadyH.cons rfl (fun K hK => ?_) AllReadyH.nil
    go_simp; (go_at_call 63; refine (HRUL.out _).mono ?_; rintro en ywr1x0 ⟨rfl, hb2⟩); have HT := Lib.hid (HT.out.below hb2); refine hK.out _ _ ⟨below_after hb2 hHeld.1, HT.out⟩ (fun hHeld2 => ?_); clear hb2; (clear hHeld; rename _ => hHeld; clear hK K; have hHeld : (fun W => Below w.heap.size w W ∧ Bk3 W GT a b c) _ := hHeld); (try simp only [Act.put, List.getElem_toArray, List.getElem_cons_succ, List.getElem_cons_zero, List.setIfInBounds_toArray, List.set_cons_zero, List.set_cons_succ])
    refine wpAnyH_ready (rs := [3]) (by kernel_rfl) (by simp) ?_; refine AllReadyH.cons rfl (fun K hK => ?_) AllReadyH.nil
    go_simp; refine (HE.out _).mono ?_; rintro en ywr1x1 ⟨rfl, hb2⟩; have HT := Lib.hid (HT.out.below hb2); refine hK.out _ _ ⟨below_after hb2 hHeld.1, HT.out⟩ (fun hHeld2 => ?_); clear hb2; (clear hHeld; rename _ => hHeld; clear hK K; have hHeld : (fun W => Below w.heap.size w W ∧ Bk3 W GT a b c) _ := hHeld); (try simp only [Act.put, List.getElem_toArray, List.getElem_cons_succ, List.getElem_cons_zero, List.setIfInBounds_toArray, List.set_cons_zero, List.set_cons_succ])
    (refine wpAnyH_take (i := 4) (v := ?_) rfl (by kernel_rfl) (by kernel_rfl) (by kernel_rfl) (fun _ _ _ h => h) (Or.inl ⟨rfl, ?_⟩) (by assumption) ?_; rotate_left; focus (intro W hSw; (try dsimp only at hSw); obtain ⟨hSb, hxT⟩ := hSw; obtain ⟨⟨iT0, iT1, iT2⟩, _, _⟩ := hxT; go_simp; try (with_reducible rfl))); (try simp only [Act.put, List.getElem_toArray, List.getElem_cons_succ, List.getElem_cons_zero, List.setIfInBounds_toArray, List.set_cons_zero, List.set_cons_succ])
    (refine wpAnyH_take (i := 5) (v := ?_) rfl (by kernel_rfl) (by kernel_rfl) (by kernel_rfl) (fun _ _ _ h => h) (Or.inl ⟨rfl, ?_⟩) (by assumption) ?_; rotate_left; focus (intro W hSw; (try dsimp only at hSw); obtain ⟨hSb, hxT⟩ := hSw; obtain ⟨⟨iT0, iT1, iT2⟩, _, _⟩ := hxT; go_simp; try (with_reducible rfl))); (try simp only [Act.put, List.getElem_toArray, List.getElem_cons_succ, List.getElem_cons_zero, List.setIfInBounds_toArray, List.set_cons_zero, List.set_cons_succ])
    refine wpAnyH_done (by kernel_rfl) ?_ _
    have HB := Lib.hid (hHeld.1)
    clear hHeld
    obtain ⟨⟨qT0, qT1, qT2⟩, ⟨fT0, fT1, fT2⟩, zT⟩ := HT.out
    go_wp2_with fail
    refine bodyPost_ret (v := .tuple #[.bool E, .int .i64 0]) (by simp (maxDischargeDepth := 8) [results, Try.results25, go_sem, *]) rfl ?_
    have hb := HB.out
    exact ⟨rfl, by (repeat' (first | (with_reducible exact Below.refl _ _) | (with_reducible refine Below.alloc ?_ ?_ _) | (with_reducible refine Below.setCell ?_ ?_ _) | (with_reducible refine Below.drew ?_) | (with_reducible refine below_drewN ?_ _) | (with_reducible assumption) | (with_reducible refine below_after (by with_reducible assumption) ?_) | go_size))⟩
  · rw [if_neg h1]
    obtain ⟨K, hK⟩ : ∃ K, rcd a b c r 0 = K := ⟨_, rfl⟩
    rw [hK] at HCODE h0 h1 ⊢
    clear hK h1
    obtain ⟨GT, hG⟩ : ∃ G, w.heap.size = G := ⟨_, rfl⟩
    have HG := Lib.hid hG
    go_enter Try.func25, Try.ntmps25
    go_upto_region 1 with fail
    obtain ⟨w0, hw0⟩ : ∃ w0, w0 = (w.alloc (.cells #[.int .i64 a, .int .i64 b, .int .i64 c] 24)) := ⟨_, rfl⟩
    rw [← hw0]
    have HT : Hid (Bk3 w0 GT a b c) := by
      have h := (bk3_new w a b c 24).below (W' := (w.alloc (.cells #[.int .i64 a, .int .i64 b, .int .i64 c] 24))) (by (repeat' (first | (with_reducible exact Below.refl _ _) | (with_reducible refine Below.alloc ?_ ?_ _) | (with_reducible refine Below.setCell ?_ ?_ _) | (with_reducible refine Below.drew ?_) | (with_reducible refine below_drewN ?_ _) | (with_reducible assumption) | (with_reducible refine below_after (by with_reducible assumption) ?_) | go_size)))
      (try simp only [World.size_alloc] at h)
      rw [hG] at h
      rw [hw0]; exact h
    have HB : Hid (Below w.heap.size w w0) := by show Below w.heap.size w w0; rw [hw0]; (repeat' (first | (with_reducible exact Below.refl _ _) | (with_reducible refine Below.alloc ?_ ?_ _) | (with_reducible refine Below.setCell ?_ ?_ _) | (with_reducible refine Below.drew ?_) | (with_reducible refine below_drewN ?_ _) | (with_reducible assumption) | (with_reducible refine below_after (by with_reducible assumption) ?_) | go_size))
    clear hw0
    have le_T : w.heap.size ≤ GT := by omega
    obtain ⟨⟨qT0, qT1, qT2⟩, ⟨fT0, fT1, fT2⟩, zT⟩ := HT.out
    go_wp2_with fail
    go_at_call 61
    refine (HCODE.out _).mono ?_
    rintro e w1 ⟨rfl, hb⟩
    clear qT0 fT0 qT1 fT1 qT2 fT2 zT
    have HT := Lib.hid (HT.out.below hb)
    have HB := Lib.hid (below_after hb HB.out)
    clear hb
    obtain ⟨⟨qT0, qT1, qT2⟩, ⟨fT0, fT1, fT2⟩, zT⟩ := HT.out
    go_wp2_with fail
    refine bodyPost_ret (v := .tuple #[.bool false, .int .i64 K]) (by simp (maxDischargeDepth := 8) [results, Try.results25, go_sem, *]) rfl ?_
    have hb := HB.out
    exact ⟨rfl, by (repeat' (first | (with_reducible exact Below.refl _ _) | (with_reducible refine Below.alloc ?_ ?_ _) | (with_reducible refine Below.setCell ?_ ?_ _) | (with_reducible refine Below.drew ?_) | (with_reducible refine below_drewN ?_ _) | (with_reducible assumption) | (with_reducible refine below_after (by with_reducible assumption) ?_) | go_size))⟩
end Go.Proofs.Ytbgifgfegndlkaa
