/-
  A run that is sent over a channel, in the program (own work).
-/
import Derived.Test.YtbgifgfegndlkaaTrN
import Derived.Test.YtbgifgfegndlkaaCom
namespace Go.Proofs.Ytbgifgfegndlkaa
open Go.Conc (run_makeChan scase rcase heap_setChan below_setChan size_setChan)
open Go.ChangeShapes Go.WideShapes Go.ChangeAt Go.RowKit
set_option linter.unusedVariables false
set_option linter.unusedSimpArgs false
set_option maxRecDepth 100000

theorem stepV (k : Nat) (hk : k < 4) (i : Nat) (hi : i ≤ 300) (a b c m0 m1 m2 m3 m4 m5 m6 m7 m8 : Int) (h : okS i ((a, b, c), (m0, m1, m2), (m3, m4, m5), (m6, m7, m8))) (GQ : Nat) (w : World) (hQ : RuleAt w GQ (rt k)) :
    Calls Try.prog 96 #[.agg #[.int .i64 a, .int .i64 b, .int .i64 c, .int .i64 m0, .int .i64 m1, .int .i64 m2, .int .i64 m3, .int .i64 m4, .int .i64 m5, .int .i64 m6, .int .i64 m7, .int .i64 m8], .pointer (some ⟨GQ, 0, none⟩)] w fun e w' => e = .returned (vS (nxS k ((a, b, c), (m0, m1, m2), (m3, m4, m5), (m6, m7, m8)))) ∧ Below w.heap.size w w' := by
  obtain ⟨F1, hm1, hc1, hsub⟩ := inv_sub k hk
  obtain ⟨F2, hm2, hc2, hadd⟩ := inv_add k hk
  obtain ⟨b0, b1, b2⟩ := okS_t h
  have r0 := rwO_b h.2.1 hi
  have r1 := rwO_b h.2.2.1 hi
  have r2 := rwO_b h.2.2.2 hi
  intro cs
  exact step_ok (T := rt k) (F1 := F1) (F2 := F2) (hm1 := hm1) (hc1 := hc1) (hm2 := hm2) (hc2 := hc2) (HSUB := Lib.hid fun w => hsub a b c w ⟨b0, b1, b2⟩) (HORD := Lib.hid fun w => descendingOrder_any _ _ _ w) (HIN := Lib.hid fun w => order_of _ _ _ _ _ _ w)
    (HADD0 := Lib.hid fun w => hadd m0 m1 m2 w r0) (HIN0 := Lib.hid fun w => order_of _ _ _ _ _ _ w) (HADD1 := Lib.hid fun w => hadd m3 m4 m5 w r1) (HIN1 := Lib.hid fun w => order_of _ _ _ _ _ _ w) (HADD2 := Lib.hid fun w => hadd m6 m7 m8 w r2) (HIN2 := Lib.hid fun w => order_of _ _ _ _ _ _ w) (HQ0 := Lib.hid hQ) ..
theorem stepOf_any (T : TypeId) (w : World) : Calls Try.prog 91 #[.iface T (.agg #[])] w fun e w' => ∃ g, e = .returned (.func (.func 96) #[] #[.pointer (some ⟨g, 0, none⟩)]) ∧ w.heap.size ≤ g ∧ RuleAt w' g T ∧ Below w.heap.size w w' := by
  go_enter Try.func91, Try.ntmps91
  go_wp2
  go_ret
  refine ⟨w.heap.size, rfl, Nat.le_refl _, ⟨by go_cell, by simp⟩, by (repeat' (first | (with_reducible exact Below.refl _ _) | (with_reducible refine Below.alloc ?_ ?_ _) | (with_reducible refine Below.setCell ?_ ?_ _) | (with_reducible refine Below.drew ?_) | (with_reducible refine below_drewN ?_ _) | (with_reducible assumption) | (with_reducible refine below_after (by with_reducible assumption) ?_) | go_size))⟩
set_option maxHeartbeats 6400000 in
theorem runOf_ok (k : Nat) (n : Nat) (hn : n ≤ 300) (a b c : Int) (T FE : Nat) (L : List Stn) (w : World) (HK : Hid (k < 4)) (HOK : Hid (okS 0 ((a, b, c), (1, 0, 0), (0, 1, 0), (0, 0, 1)))) (HL : Hid (runL k n ((a, b, c), (1, 0, 0), (0, 1, 0), (0, 0, 1)) = L))
    (hmE : ∀ w, (Go.method 232 T (.agg #[]) "loop.example/g01297/impl.hasEnded").run Try.prog w = .ok (FE, .agg #[]) w) (hcE : ∀ args w, (callFunc FE args).run Try.prog w = .ok (.enter FE args) w)
    (HEND : Hid (∀ a b c w, Calls Try.prog FE #[.agg #[], .agg #[.int .i64 a, .int .i64 b, .int .i64 c]] w fun e w' => e = .returned (.bool (rEnd k b c)) ∧ Below w.heap.size w w'))
    (HSTEP : Hid (∀ i, i ≤ 300 → ∀ a b c m0 m1 m2 m3 m4 m5 m6 m7 m8, okS i ((a, b, c), (m0, m1, m2), (m3, m4, m5), (m6, m7, m8)) → ∀ GQ w, RuleAt w GQ T →
      Calls Try.prog 96 #[.agg #[.int .i64 a, .int .i64 b, .int .i64 c, .int .i64 m0, .int .i64 m1, .int .i64 m2, .int .i64 m3, .int .i64 m4, .int .i64 m5, .int .i64 m6, .int .i64 m7, .int .i64 m8], .pointer (some ⟨GQ, 0, none⟩)] w fun e w' => e = .returned (vS (nxS k ((a, b, c), (m0, m1, m2), (m3, m4, m5), (m6, m7, m8)))) ∧ Below w.heap.size w w')) :
    Calls Try.prog 66 #[.agg #[.int .i64 a, .int .i64 b, .int .i64 c], .iface T (.agg #[]), .int .i64 (n : Int)] w fun e w' => ∃ g, e = .returned (.chan (some g)) ∧ w.heap.size ≤ g ∧ Chn w' g (n + 1) (L.map vS) true ∧ Below w.heap.size w w' := by
  have HSO := Lib.hid (fun w => stepOf_any T w)
  have hmk : ∀ w : World, (Instr.makeChan 105 (.int .i64 ((n : Int) + 1))).run Try.prog w = .ok (.chan (some w.heap.size)) (w.alloc (.chan (n + 1) #[] false 0 0 false)) := by
    intro w
    have h : (Try.prog.info? 69).map (·.bytes) = some 96 := by kernel_rfl
    obtain ⟨i, hi, hb⟩ := Option.map_eq_some_iff.1 h
    have := run_makeChan (P := Try.prog) (w := w) Try.underlying105 hi .i64 (n + 1) (by omega) (by rw [hb]; omega)
    simpa using this
  obtain ⟨GT, hG⟩ : ∃ G, w.heap.size = G := ⟨_, rfl⟩
  have HG := Lib.hid hG
  go_enter Try.func66, Try.ntmps66
  go_upto_region 1 with fail
  obtain ⟨w0, hw0⟩ : ∃ w0, w0 = (w.alloc (.cells #[.int .i64 a, .int .i64 b, .int .i64 c] 24)) := ⟨_, rfl⟩
  rw [← hw0]
  have HT : Hid (Bk3 w0 GT a b c) := by
    have h := (bk3_new w a b c 24).below (W' := (w.alloc (.cells #[.int .i64 a, .int .i64 b, .int .i64 c] 24))) (by (repeat' (first | (with_reducible exact Below.refl _ _) | (with_reducible refine Below.alloc ?_ ?_ _) | (with_reducible refine Below.setCell ?_ ?_ _) | (with_reducible refine Below.drew ?_) | (with_reducible refine below_drewN ?_ _) | (with_reducible assumption) | (with_reducible refine below_after (by with_reducible assumption) ?_) | go_size)))
    (try simp only [World.size_alloc] at h)
    rw [hG] at h
    rw [hw0]; exact h
  have HB : Hid (Below w.heap.size w w0) := by show Below w.heap.size w w0; rw [hw0]; (repeat' (first | (with_reducible exact Below.refl _ _) | (with_reducible refine Below.alloc ?_ ?_ _) | (with_reducible refine Below.setCell ?_ ?_ _) | (with_reducible refine Below.drew ?_) | (with_reducible refine below_drewN ?_ _) | (with_reducible assumption) | (with_reducible refine below_after (by with_reducible assumption) ?_) | go_size))
  clear hw0
  have le_T : w.heap.size ≤ GT := by omega
  go_upto_region 2 with fail
  have hltT := HT.out.2.2
  obtain ⟨GC, hGC⟩ : ∃ g, w0.heap.size = g := ⟨_, rfl⟩
  obtain ⟨wc, hwc⟩ : ∃ wx, wx = w0.alloc (.chan (n + 1) #[] false 0 0 false) := ⟨_, rfl⟩
  rw [← hwc, hGC]
  have HC : Hid (Chn wc GC (n + 1) [] false) := ⟨0, 0, by rw [hwc, ← hGC]; exact heap_alloc_new _ _⟩
  have le_C : w.heap.size ≤ GC := by rw [← hGC]; exact HB.out.size
  have HT : Hid (Bk3 wc GT a b c) := by show Bk3 _ _ _ _ _; rw [hwc]; exact HT.out.below ((Below.refl _ _).alloc (Nat.le_refl _) _)
  have HB : Hid (Below w.heap.size w wc) := by show Below _ _ _; rw [hwc]; exact Below.alloc HB.out HB.out.size _
  clear hwc hGC hltT hmk
  have hszC := HC.out.lt
  obtain ⟨⟨qT0, qT1, qT2⟩, ⟨fT0, fT1, fT2⟩, zT⟩ := HT.out
  go_wp2_with fail
  go_at_call 91
  refine (HSO.out _).mono ?_
  rintro e w1 ⟨GQ, rfl, hgQ, hbQ, hb⟩
  clear qT0 fT0 qT1 fT1 qT2 fT2 zT
  have HT := Lib.hid (HT.out.below hb)
  have HC := Lib.hid (HC.out.below hb)
  have HB := Lib.hid (below_after hb HB.out)
  clear hb
  have HQ := Lib.hid hbQ
  have le_Q : w.heap.size ≤ GQ := by omega
  have ne_Q_C : GQ ≠ GC := by omega
  clear hbQ hgQ hszC HSO
  obtain ⟨⟨qT0, qT1, qT2⟩, ⟨fT0, fT1, fT2⟩, zT⟩ := HT.out
  go_upto_region 4 with fail
  obtain ⟨GS, hGS⟩ : ∃ g, w1.heap.size = g := ⟨_, rfl⟩
  obtain ⟨w2, hw2⟩ : ∃ wx, wx = w1.alloc (.cells #[.int .i64 a, .int .i64 b, .int .i64 c, .int .i64 1, .int .i64 0, .int .i64 0, .int .i64 0, .int .i64 1, .int .i64 0, .int .i64 0, .int .i64 0, .int .i64 1] 69) := ⟨_, rfl⟩
  rw [← hw2, hGS]
  have HS : Hid (Bk12 w2 GS a b c 1 0 0 0 1 0 0 0 1) := by rw [hw2, ← hGS]; exact bk12_new w1 a b c 1 0 0 0 1 0 0 0 1 _
  have le_S : w.heap.size ≤ GS := by rw [← hGS]; exact HB.out.size
  have ne_S_T : GS ≠ GT := by have := HT.out.2.2; omega
  have ne_T_S : GT ≠ GS := Ne.symm ne_S_T
  have ne_S_C : GS ≠ GC := by have := HC.out.lt; omega
  have ne_C_S : GC ≠ GS := Ne.symm ne_S_C
  have ne_S_Q : GS ≠ GQ := by have := HQ.out.2; omega
  have ne_Q_S : GQ ≠ GS := Ne.symm ne_S_Q
  clear qT0 fT0 qT1 fT1 qT2 fT2 zT
  have HT := Lib.hid (HT.out.below ((Below.refl _ _).alloc (Nat.le_refl _) (.cells #[.int .i64 a, .int .i64 b, .int .i64 c, .int .i64 1, .int .i64 0, .int .i64 0, .int .i64 0, .int .i64 1, .int .i64 0, .int .i64 0, .int .i64 0, .int .i64 1] 69)))
  have HC := Lib.hid (HC.out.below ((Below.refl _ _).alloc (Nat.le_refl _) (.cells #[.int .i64 a, .int .i64 b, .int .i64 c, .int .i64 1, .int .i64 0, .int .i64 0, .int .i64 0, .int .i64 1, .int .i64 0, .int .i64 0, .int .i64 0, .int .i64 1] 69)))
  have HQ := Lib.hid (HQ.out.below ((Below.refl _ _).alloc (Nat.le_refl _) (.cells #[.int .i64 a, .int .i64 b, .int .i64 c, .int .i64 1, .int .i64 0, .int .i64 0, .int .i64 0, .int .i64 1, .int .i64 0, .int .i64 0, .int .i64 0, .int .i64 1] 69)))
  have HB := Lib.hid (Below.alloc HB.out HB.out.size (.cells #[.int .i64 a, .int .i64 b, .int .i64 c, .int .i64 1, .int .i64 0, .int .i64 0, .int .i64 0, .int .i64 1, .int .i64 0, .int .i64 0, .int .i64 0, .int .i64 1] 69))
  rw [← hw2] at HT HC HQ HB
  clear hw2 hGS
  clear HT

  obtain ⟨⟨qS0, qS1, qS2, qS3, qS4, qS5, qS6, qS7, qS8, qS9, qS10, qS11⟩, ⟨fS0, fS1, fS2, fS3, fS4, fS5, fS6, fS7, fS8, fS9, fS10, fS11⟩, zS⟩ := HS.out
  refine wp_region_ops ?_
  change OpsTo _ _ _ [0, 1, 2] _ _
  refine ops_value (v := .chan (some GC)) (w' := w2) rfl rfl (by go_simp) ?_
  (try simp only [Act.put, List.getElem_toArray, List.getElem_cons_succ, List.getElem_cons_zero, List.setIfInBounds_toArray, List.set_cons_zero, List.set_cons_succ])
  refine ops_value (v := .agg #[.int .i64 a, .int .i64 b, .int .i64 c, .int .i64 1, .int .i64 0, .int .i64 0, .int .i64 0, .int .i64 1, .int .i64 0, .int .i64 0, .int .i64 0, .int .i64 1]) (w' := w2) rfl rfl (by go_simp) ?_
  (try simp only [Act.put, List.getElem_toArray, List.getElem_cons_succ, List.getElem_cons_zero, List.setIfInBounds_toArray, List.set_cons_zero, List.set_cons_succ])
  obtain ⟨sn, rn, hch⟩ := HC.out
  refine ops_send (c := GC) (v := .agg #[.int .i64 a, .int .i64 b, .int .i64 c, .int .i64 1, .int .i64 0, .int .i64 0, .int .i64 0, .int .i64 1, .int .i64 0, .int .i64 0, .int .i64 0, .int .i64 1]) (z := .tuple #[]) rfl rfl (by simp [execOp, scase, Act.eval]) hch (by first | (simp; done) | (simp; omega)) ?_
  refine ops_end ?_
  (try simp only [Act.put, List.getElem_toArray, List.getElem_cons_succ, List.getElem_cons_zero, List.setIfInBounds_toArray, List.set_cons_zero, List.set_cons_succ])
  obtain ⟨wn, hwn⟩ : ∃ wx, wx = w2.setChan GC (n + 1) ((([] : List Value)).toArray.push (.agg #[.int .i64 a, .int .i64 b, .int .i64 c, .int .i64 1, .int .i64 0, .int .i64 0, .int .i64 0, .int .i64 1, .int .i64 0, .int .i64 0, .int .i64 0, .int .i64 1])) false (sn + 1) rn false := ⟨_, rfl⟩
  rw [← hwn]

  clear qS0 fS0 qS1 fS1 qS2 fS2 qS3 fS3 qS4 fS4 qS5 fS5 qS6 fS6 qS7 fS7 qS8 fS8 qS9 fS9 qS10 fS10 qS11 fS11 zS
  have HS := Lib.hid (HS.out.same (show wn.heap[GS]? = w2.heap[GS]? by rw [hwn]; exact setChan_block _ _ _ _ _ _ _ _ _ ne_S_C))
  have HQ := Lib.hid (HQ.out.same (show wn.heap[GQ]? = w2.heap[GQ]? by rw [hwn]; exact setChan_block _ _ _ _ _ _ _ _ _ ne_Q_C))
  have HB : Hid (Below w.heap.size w wn) := by show Below _ _ _; rw [hwn]; exact below_setChan HB.out le_C _ _ _ _ _ _
  have HC : Hid (Chn wn GC (n + 1) ((([] : List Value)) ++ [.agg #[.int .i64 a, .int .i64 b, .int .i64 c, .int .i64 1, .int .i64 0, .int .i64 0, .int .i64 0, .int .i64 1, .int .i64 0, .int .i64 0, .int .i64 0, .int .i64 1]]) false) := ⟨sn + 1, rn, by
    rw [hwn, heap_setChan _ _ _ _ _ _ _ _ HC.out.lt]
    simp⟩
  clear hwn hch

  have HNE := Lib.hid (And.intro ne_S_C (And.intro ne_Q_C (And.intro le_C (And.intro le_S (And.intro le_Q ne_Q_S)))))
  go_wp2_with fail
  go_loopw [10] (fun y wr => ∃ (i : Nat) (a b c m0 m1 m2 m3 m4 m5 m6 m7 m8 : Int) (pre : List Stn), y = .int .i64 (i : Int) ∧ i ≤ n ∧ okS i ((a, b, c), (m0, m1, m2), (m3, m4, m5), (m6, m7, m8)) ∧ pre.length = i ∧ pre ++ runL k (n - i) ((a, b, c), (m0, m1, m2), (m3, m4, m5), (m6, m7, m8)) = L ∧ Chn wr GC (n + 1) (pre.map vS ++ [.agg #[.int .i64 a, .int .i64 b, .int .i64 c, .int .i64 m0, .int .i64 m1, .int .i64 m2, .int .i64 m3, .int .i64 m4, .int .i64 m5, .int .i64 m6, .int .i64 m7, .int .i64 m8]]) false ∧ Bk12 wr GS a b c m0 m1 m2 m3 m4 m5 m6 m7 m8 ∧ RuleAt wr GQ T ∧ Below w.heap.size w wr) (fun y _ => n - (intOf y).toNat)
  case atStart => exact ⟨0, a, b, c, 1, 0, 0, 0, 1, 0, 0, 0, 1, [], rfl, by omega, HOK.out, rfl, HL.out, HC.out, HS.out, HQ.out, HB.out⟩
  case round =>
    obtain ⟨i, a, b, c, m0, m1, m2, m3, m4, m5, m6, m7, m8, pre, rfl, hi, hok, hlen, hl, hC, hS, hQ, hbel⟩ := hrel
    clear HC HS HQ HB HOK HL
    have HC := Lib.hid hC
    have HS := Lib.hid hS
    have HQ := Lib.hid hQ
    have HB := Lib.hid hbel
    have HOK := Lib.hid hok
    have HL := Lib.hid hl
    have HLEN := Lib.hid hlen
    clear hC hS hQ hbel hok hl hlen
    obtain ⟨ne_S_C, ne_Q_C, le_C, le_S, le_Q, ne_Q_S⟩ := HNE.out
    by_cases hin : i = n
    · subst hin
      have HE : Hid ((pre.map vS ++ [.agg #[.int .i64 a, .int .i64 b, .int .i64 c, .int .i64 m0, .int .i64 m1, .int .i64 m2, .int .i64 m3, .int .i64 m4, .int .i64 m5, .int .i64 m6, .int .i64 m7, .int .i64 m8]]) = L.map vS) := by
        show _ = _
        rw [← HL.out, runL_end (.inl (by omega))]
        simp [vS]
      obtain ⟨⟨qS0, qS1, qS2, qS3, qS4, qS5, qS6, qS7, qS8, qS9, qS10, qS11⟩, _, zS⟩ := HS.out
      obtain ⟨sn, rn, hch⟩ := HC.out
      have hcl : ∀ ats ty, (Builtin.close_ ats ty #[.chan (some GC)]).run Try.prog wr = .ok (.tuple #[]) (wr.setChan GC (i + 1) (pre.map vS ++ [(.agg #[.int .i64 a, .int .i64 b, .int .i64 c, .int .i64 m0, .int .i64 m1, .int .i64 m2, .int .i64 m3, .int .i64 m4, .int .i64 m5, .int .i64 m6, .int .i64 m7, .int .i64 m8] : Value)]).toArray true sn rn false) := fun ats ty => run_close_open (P := Try.prog) (w := wr) ats ty hch
      go_wp2_with fail
      refine bodyPost_ret (v := .chan (some GC)) (by simp (maxDischargeDepth := 8) [results, Try.results66, go_sem, *]) rfl ?_
      refine ⟨GC, rfl, le_C, ⟨sn, rn, ?_⟩, below_setChan HB.out le_C _ _ _ _ _ _⟩
      rw [heap_setChan _ _ _ _ _ _ _ _ HC.out.lt, HE.out]
    · have hlt : i < n := by omega
      obtain ⟨⟨qS0, qS1, qS2, qS3, qS4, qS5, qS6, qS7, qS8, qS9, qS10, qS11⟩, ⟨fS0, fS1, fS2, fS3, fS4, fS5, fS6, fS7, fS8, fS9, fS10, fS11⟩, zS⟩ := HS.out
      go_wp2_with fail
      refine (HEND.out _ _ _ _).mono ?_
      rintro e w21 ⟨rfl, hb⟩
      clear qS0 fS0 qS1 fS1 qS2 fS2 qS3 fS3 qS4 fS4 qS5 fS5 qS6 fS6 qS7 fS7 qS8 fS8 qS9 fS9 qS10 fS10 qS11 fS11 zS
      have HS := Lib.hid (HS.out.below hb)
      have HC := Lib.hid (HC.out.below hb)
      have HQ := Lib.hid (HQ.out.below hb)
      have HB := Lib.hid (below_after hb HB.out)
      clear hb
      cases he : rEnd k b c
      · have HN1 := Lib.hid (okS_next HK.out HOK.out (show enT k (a, b, c) = false from he))
        have HN2 : Hid ((pre ++ [((a, b, c), (m0, m1, m2), (m3, m4, m5), (m6, m7, m8))]) ++ runL k (n - (i + 1)) (nxS k ((a, b, c), (m0, m1, m2), (m3, m4, m5), (m6, m7, m8))) = L) := by
          show _ = _
          rw [← HL.out, runL_next (s := ((a, b, c), (m0, m1, m2), (m3, m4, m5), (m6, m7, m8))) (n := n - i) (by omega) (show enT k (a, b, c) = false from he), List.append_assoc, show n - i - 1 = n - (i + 1) from by omega]
          rfl
        have HST := Lib.hid (fun W h => HSTEP.out i (by omega) a b c m0 m1 m2 m3 m4 m5 m6 m7 m8 HOK.out GQ W h)
        obtain ⟨⟨⟨a', b', c'⟩, ⟨n0, n1, n2⟩, ⟨n3, n4, n5⟩, ⟨n6, n7, n8⟩⟩, hnx⟩ : ∃ s, nxS k ((a, b, c), (m0, m1, m2), (m3, m4, m5), (m6, m7, m8)) = s := ⟨_, rfl⟩
        rw [hnx] at HN1 HN2 HST
        have HST : Hid (∀ W, RuleAt W GQ T → Calls Try.prog 96 #[.agg #[.int .i64 a, .int .i64 b, .int .i64 c, .int .i64 m0, .int .i64 m1, .int .i64 m2, .int .i64 m3, .int .i64 m4, .int .i64 m5, .int .i64 m6, .int .i64 m7, .int .i64 m8], .pointer (some ⟨GQ, 0, none⟩)] W fun e w' => e = .returned (.agg #[.int .i64 a', .int .i64 b', .int .i64 c', .int .i64 n0, .int .i64 n1, .int .i64 n2, .int .i64 n3, .int .i64 n4, .int .i64 n5, .int .i64 n6, .int .i64 n7, .int .i64 n8]) ∧ Below W.heap.size W w') := HST
        clear hnx he HOK HL
        obtain ⟨⟨qS0, qS1, qS2, qS3, qS4, qS5, qS6, qS7, qS8, qS9, qS10, qS11⟩, ⟨fS0, fS1, fS2, fS3, fS4, fS5, fS6, fS7, fS8, fS9, fS10, fS11⟩, zS⟩ := HS.out
        go_wp2_with fail
        go_at_call 96
        refine (HST.out _ HQ.out).mono ?_
        rintro e w41 ⟨rfl, hb⟩
        clear qS0 fS0 qS1 fS1 qS2 fS2 qS3 fS3 qS4 fS4 qS5 fS5 qS6 fS6 qS7 fS7 qS8 fS8 qS9 fS9 qS10 fS10 qS11 fS11 zS
        have HS := Lib.hid (HS.out.below hb)
        have HC := Lib.hid (HC.out.below hb)
        have HQ := Lib.hid (HQ.out.below hb)
        have HB := Lib.hid (below_after hb HB.out)
        clear hb
        obtain ⟨⟨qS0, qS1, qS2, qS3, qS4, qS5, qS6, qS7, qS8, qS9, qS10, qS11⟩, ⟨fS0, fS1, fS2, fS3, fS4, fS5, fS6, fS7, fS8, fS9, fS10, fS11⟩, zS⟩ := HS.out
        go_upto_region 9 with fail
        obtain ⟨wt, hwt⟩ : ∃ wx, wx = ((((((((((((w41.setCell ⟨GS, 0, none⟩ (.int .i64 a')).setCell ⟨GS, 1, none⟩ (.int .i64 b')).setCell ⟨GS, 2, none⟩ (.int .i64 c')).setCell ⟨GS, 3, none⟩ (.int .i64 n0)).setCell ⟨GS, 4, none⟩ (.int .i64 n1)).setCell ⟨GS, 5, none⟩ (.int .i64 n2)).setCell ⟨GS, 6, none⟩ (.int .i64 n3)).setCell ⟨GS, 7, none⟩ (.int .i64 n4)).setCell ⟨GS, 8, none⟩ (.int .i64 n5)).setCell ⟨GS, 9, none⟩ (.int .i64 n6)).setCell ⟨GS, 10, none⟩ (.int .i64 n7)).setCell ⟨GS, 11, none⟩ (.int .i64 n8)) := ⟨_, rfl⟩
        (try rw [← hwt])
        clear qS0 fS0 qS1 fS1 qS2 fS2 qS3 fS3 qS4 fS4 qS5 fS5 qS6 fS6 qS7 fS7 qS8 fS8 qS9 fS9 qS10 fS10 qS11 fS11 zS
        have HS := Lib.hid ((((((((((((HS.out.set0 a').set1 b').set2 c').set3 n0).set4 n1).set5 n2).set6 n3).set7 n4).set8 n5).set9 n6).set10 n7).set11 n8)
        have HB := Lib.hid (Below.setCell (Below.setCell (Below.setCell (Below.setCell (Below.setCell (Below.setCell (Below.setCell (Below.setCell (Below.setCell (Below.setCell (Below.setCell (Below.setCell HB.out (p := ⟨GS, 0, none⟩) le_S (.int .i64 a')) (p := ⟨GS, 1, none⟩) le_S (.int .i64 b')) (p := ⟨GS, 2, none⟩) le_S (.int .i64 c')) (p := ⟨GS, 3, none⟩) le_S (.int .i64 n0)) (p := ⟨GS, 4, none⟩) le_S (.int .i64 n1)) (p := ⟨GS, 5, none⟩) le_S (.int .i64 n2)) (p := ⟨GS, 6, none⟩) le_S (.int .i64 n3)) (p := ⟨GS, 7, none⟩) le_S (.int .i64 n4)) (p := ⟨GS, 8, none⟩) le_S (.int .i64 n5)) (p := ⟨GS, 9, none⟩) le_S (.int .i64 n6)) (p := ⟨GS, 10, none⟩) le_S (.int .i64 n7)) (p := ⟨GS, 11, none⟩) le_S (.int .i64 n8))
        have HC := Lib.hid ((((((((((((HC.out.far ⟨GS, 0, none⟩ (.int .i64 a') (by show GC ≠ GS; exact Ne.symm ne_S_C)).far ⟨GS, 1, none⟩ (.int .i64 b') (by show GC ≠ GS; exact Ne.symm ne_S_C)).far ⟨GS, 2, none⟩ (.int .i64 c') (by show GC ≠ GS; exact Ne.symm ne_S_C)).far ⟨GS, 3, none⟩ (.int .i64 n0) (by show GC ≠ GS; exact Ne.symm ne_S_C)).far ⟨GS, 4, none⟩ (.int .i64 n1) (by show GC ≠ GS; exact Ne.symm ne_S_C)).far ⟨GS, 5, none⟩ (.int .i64 n2) (by show GC ≠ GS; exact Ne.symm ne_S_C)).far ⟨GS, 6, none⟩ (.int .i64 n3) (by show GC ≠ GS; exact Ne.symm ne_S_C)).far ⟨GS, 7, none⟩ (.int .i64 n4) (by show GC ≠ GS; exact Ne.symm ne_S_C)).far ⟨GS, 8, none⟩ (.int .i64 n5) (by show GC ≠ GS; exact Ne.symm ne_S_C)).far ⟨GS, 9, none⟩ (.int .i64 n6) (by show GC ≠ GS; exact Ne.symm ne_S_C)).far ⟨GS, 10, none⟩ (.int .i64 n7) (by show GC ≠ GS; exact Ne.symm ne_S_C)).far ⟨GS, 11, none⟩ (.int .i64 n8) (by show GC ≠ GS; exact Ne.symm ne_S_C))
        have HQ := Lib.hid ((((((((((((HQ.out.far ⟨GS, 0, none⟩ (.int .i64 a') (by show GQ ≠ GS; exact ne_Q_S)).far ⟨GS, 1, none⟩ (.int .i64 b') (by show GQ ≠ GS; exact ne_Q_S)).far ⟨GS, 2, none⟩ (.int .i64 c') (by show GQ ≠ GS; exact ne_Q_S)).far ⟨GS, 3, none⟩ (.int .i64 n0) (by show GQ ≠ GS; exact ne_Q_S)).far ⟨GS, 4, none⟩ (.int .i64 n1) (by show GQ ≠ GS; exact ne_Q_S)).far ⟨GS, 5, none⟩ (.int .i64 n2) (by show GQ ≠ GS; exact ne_Q_S)).far ⟨GS, 6, none⟩ (.int .i64 n3) (by show GQ ≠ GS; exact ne_Q_S)).far ⟨GS, 7, none⟩ (.int .i64 n4) (by show GQ ≠ GS; exact ne_Q_S)).far ⟨GS, 8, none⟩ (.int .i64 n5) (by show GQ ≠ GS; exact ne_Q_S)).far ⟨GS, 9, none⟩ (.int .i64 n6) (by show GQ ≠ GS; exact ne_Q_S)).far ⟨GS, 10, none⟩ (.int .i64 n7) (by show GQ ≠ GS; exact ne_Q_S)).far ⟨GS, 11, none⟩ (.int .i64 n8) (by show GQ ≠ GS; exact ne_Q_S))
        rw [← hwt] at HS HB HC HQ
        clear hwt
        obtain ⟨⟨qS0, qS1, qS2, qS3, qS4, qS5, qS6, qS7, qS8, qS9, qS10, qS11⟩, ⟨fS0, fS1, fS2, fS3, fS4, fS5, fS6, fS7, fS8, fS9, fS10, fS11⟩, zS⟩ := HS.out
        have hle := HLEN.out
        refine wp_region_ops ?_
        change OpsTo _ _ _ [0, 1, 2] _ _
        refine ops_value (v := .chan (some GC)) (w' := wt) rfl rfl (by go_simp) ?_
        (try simp only [Act.put, List.getElem_toArray, List.getElem_cons_succ, List.getElem_cons_zero, List.setIfInBounds_toArray, List.set_cons_zero, List.set_cons_succ])
        refine ops_value (v := .agg #[.int .i64 a', .int .i64 b', .int .i64 c', .int .i64 n0, .int .i64 n1, .int .i64 n2, .int .i64 n3, .int .i64 n4, .int .i64 n5, .int .i64 n6, .int .i64 n7, .int .i64 n8]) (w' := wt) rfl rfl (by go_simp) ?_
        (try simp only [Act.put, List.getElem_toArray, List.getElem_cons_succ, List.getElem_cons_zero, List.setIfInBounds_toArray, List.set_cons_zero, List.set_cons_succ])
        obtain ⟨sn, rn, hch⟩ := HC.out
        refine ops_send (c := GC) (v := .agg #[.int .i64 a', .int .i64 b', .int .i64 c', .int .i64 n0, .int .i64 n1, .int .i64 n2, .int .i64 n3, .int .i64 n4, .int .i64 n5, .int .i64 n6, .int .i64 n7, .int .i64 n8]) (z := .tuple #[]) rfl rfl (by simp [execOp, scase, Act.eval]) hch (by first | (simp; done) | (simp; omega)) ?_
        refine ops_end ?_
        (try simp only [Act.put, List.getElem_toArray, List.getElem_cons_succ, List.getElem_cons_zero, List.setIfInBounds_toArray, List.set_cons_zero, List.set_cons_succ])
        obtain ⟨wn, hwn⟩ : ∃ wx, wx = wt.setChan GC (n + 1) ((pre.map vS ++ [(.agg #[.int .i64 a, .int .i64 b, .int .i64 c, .int .i64 m0, .int .i64 m1, .int .i64 m2, .int .i64 m3, .int .i64 m4, .int .i64 m5, .int .i64 m6, .int .i64 m7, .int .i64 m8] : Value)]).toArray.push (.agg #[.int .i64 a', .int .i64 b', .int .i64 c', .int .i64 n0, .int .i64 n1, .int .i64 n2, .int .i64 n3, .int .i64 n4, .int .i64 n5, .int .i64 n6, .int .i64 n7, .int .i64 n8])) false (sn + 1) rn false := ⟨_, rfl⟩
        rw [← hwn]

        clear qS0 fS0 qS1 fS1 qS2 fS2 qS3 fS3 qS4 fS4 qS5 fS5 qS6 fS6 qS7 fS7 qS8 fS8 qS9 fS9 qS10 fS10 qS11 fS11 zS
        have HS := Lib.hid (HS.out.same (show wn.heap[GS]? = wt.heap[GS]? by rw [hwn]; exact setChan_block _ _ _ _ _ _ _ _ _ ne_S_C))
        have HQ := Lib.hid (HQ.out.same (show wn.heap[GQ]? = wt.heap[GQ]? by rw [hwn]; exact setChan_block _ _ _ _ _ _ _ _ _ ne_Q_C))
        have HB : Hid (Below w.heap.size w wn) := by show Below _ _ _; rw [hwn]; exact below_setChan HB.out le_C _ _ _ _ _ _
        have HC : Hid (Chn wn GC (n + 1) ((pre.map vS ++ [(.agg #[.int .i64 a, .int .i64 b, .int .i64 c, .int .i64 m0, .int .i64 m1, .int .i64 m2, .int .i64 m3, .int .i64 m4, .int .i64 m5, .int .i64 m6, .int .i64 m7, .int .i64 m8] : Value)]) ++ [.agg #[.int .i64 a', .int .i64 b', .int .i64 c', .int .i64 n0, .int .i64 n1, .int .i64 n2, .int .i64 n3, .int .i64 n4, .int .i64 n5, .int .i64 n6, .int .i64 n7, .int .i64 n8]]) false) := ⟨sn + 1, rn, by
          rw [hwn, heap_setChan _ _ _ _ _ _ _ _ HC.out.lt]
          simp⟩
        clear hwn hch

        go_wp2_with fail
        go_roundw
        case rel => exact ⟨i + 1, a', b', c', n0, n1, n2, n3, n4, n5, n6, n7, n8, pre ++ [((a, b, c), (m0, m1, m2), (m3, m4, m5), (m6, m7, m8))], by go_num, by omega, HN1.out, by simp; omega, HN2.out, by have h := HC.out; simpa [vS] using h, HS.out, HQ.out, HB.out⟩
        case measure => simp only [intOf]; omega
      · have HE : Hid ((pre.map vS ++ [.agg #[.int .i64 a, .int .i64 b, .int .i64 c, .int .i64 m0, .int .i64 m1, .int .i64 m2, .int .i64 m3, .int .i64 m4, .int .i64 m5, .int .i64 m6, .int .i64 m7, .int .i64 m8]]) = L.map vS) := by
          show _ = _
          rw [← HL.out, runL_end (.inr (show enT k (a, b, c) = true from he))]
          simp [vS]
        clear he
        obtain ⟨⟨qS0, qS1, qS2, qS3, qS4, qS5, qS6, qS7, qS8, qS9, qS10, qS11⟩, _, zS⟩ := HS.out
        obtain ⟨sn, rn, hch⟩ := HC.out
        have hcl : ∀ ats ty, (Builtin.close_ ats ty #[.chan (some GC)]).run Try.prog w21 = .ok (.tuple #[]) (w21.setChan GC (n + 1) (pre.map vS ++ [(.agg #[.int .i64 a, .int .i64 b, .int .i64 c, .int .i64 m0, .int .i64 m1, .int .i64 m2, .int .i64 m3, .int .i64 m4, .int .i64 m5, .int .i64 m6, .int .i64 m7, .int .i64 m8] : Value)]).toArray true sn rn false) := fun ats ty => run_close_open (P := Try.prog) (w := w21) ats ty hch
        go_wp2_with fail
        refine bodyPost_ret (v := .chan (some GC)) (by simp (maxDischargeDepth := 8) [results, Try.results66, go_sem, *]) rfl ?_
        refine ⟨GC, rfl, le_C, ⟨sn, rn, ?_⟩, below_setChan HB.out le_C _ _ _ _ _ _⟩
        rw [heap_setChan _ _ _ _ _ _ _ _ HC.out.lt, HE.out]
end Go.Proofs.Ytbgifgfegndlkaa
