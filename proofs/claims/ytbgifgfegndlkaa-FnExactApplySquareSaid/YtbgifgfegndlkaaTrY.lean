/-
  RunTriple and ShortestRule in the model; whole runs, their lengths and ends, and ShortestRule in the program (own work).
-/
import Derived.Test.YtbgifgfegndlkaaTrX
namespace Go.Proofs.Ytbgifgfegndlkaa
open Go.ChangeShapes Go.WideShapes Go.ChangeAt Go.RowKit
set_option linter.unusedVariables false
set_option linter.unusedSimpArgs false
set_option maxRecDepth 100000

theorem own_one (w : World) (B : Nat) (a b c : Int) (hb : B ≤ w.heap.size) : OwnT B (w.alloc (.cells #[.int .i64 a, .int .i64 b, .int .i64 c] 24)) (.slice (some ⟨w.heap.size, 0, none⟩) 1 1) [(a, b, c)] :=
  ⟨by simp [flT], .inr ⟨w.heap.size, 1, _, rfl, hb, heap_alloc_new w _, Nat.le_refl _, by decide, rfl, by simp [flT]⟩⟩
set_option maxHeartbeats 6400000 in
theorem spec_RunTriple_ok (k : Nat) (hk : k < 4) (n : Nat) (hn : n ≤ 300) (a b c : Int) (hs : isSt a b c = true) (w : World) : Calls Try.prog 26 #[.agg #[.int .i64 a, .int .i64 b, .int .i64 c], .int .i64 (k : Int), .int .i64 (n : Int)] w fun e w' => ∃ v, e = .returned (.tuple #[v, .int .i64 0]) ∧ OwnT w.heap.size w' v (runT k n (a, b, c)) ∧ Below w.heap.size w w' := by
  have HC := Lib.hid (fun w => l07Code_any a b c (k : Int) w)
  rw [show scd a b c (k : Int) = 0 from by unfold scd; rw [if_pos hs, if_pos (by omega)]] at HC
  have HIN := Lib.hid (fun w => l01In_any (n : Int) 0 300 w)
  rw [show inB (n : Int) 0 300 = true from inB_iff.2 (by omega)] at HIN
  have HK := Lib.hid hk
  have HN := Lib.hid hn
  have HS0 := Lib.hid hs
  obtain ⟨L, hL⟩ : ∃ L, runT k n (a, b, c) = L := ⟨_, rfl⟩
  have HL0 : Hid ([] ++ runT k n (a, b, c) = L) := hL
  rw [hL]
  clear hs hk hn hL
  obtain ⟨GT, hG⟩ : ∃ G, w.heap.size = G := ⟨_, rfl⟩
  have HG := Lib.hid hG
  go_enter Try.func26, Try.ntmps26
  go_upto_region 1 with fail
  obtain ⟨w0, hw0⟩ : ∃ w0, w0 = (w.alloc (.cells #[.int .i64 a, .int .i64 b, .int .i64 c] 24)) := ⟨_, rfl⟩
  rw [← hw0]
  have HT : Hid (Bk3 w0 GT a b c) := by
    have h := (bk3_new w a b c 24).below (W' := (w.alloc (.cells #[.int .i64 a, .int .i64 b, .int .i64 c] 24))) (by (repeat' (first | (with_reducible exact Below.refl _ _) | (with_reducible refine Below.alloc ?_ ?_ _) | (with_reducible refine Below.setCell ?_ ?_ _) | (with_reducible refine Below.drew ?_) | (with_reducible refine below_drewN ?_ _) | (with_reducible assumption) | (with_reducible refine below_after (by with_reducible assumption) ?_) | go_size)))
    (try simp only [World.size_alloc] at h)
    rw [hG] at h
    rw [hw0]; exact h
  have HB : Hid (Below w.heap.size w w0) := by show Below w.heap.size w w0; rw [hw0]; (repeat' (first | (with_reducible exact Below.refl _ _) | (with_reducible refine Below.alloc ?_ ?_ _) | (with_reducible refine Below.setCell ?_ ?_ _) | (with_reducible refine Below.drew ?_) | (with_reducible refine below_drewN ?_ _) | (with_reducible assumption) | (with_reducible refine below_after (by with_reducible assumption) ?_) | go_size))
  clear hw0
  have le_T : w.heap.size ≤ GT := by omega
  obtain ⟨⟨qT0, qT1, qT2⟩, ⟨fT0, fT1, fT2⟩, zT⟩ := HT.out
  go_wp2_with fail
  go_at_call 59
  refine (HC.out _).mono ?_
  rintro e w1 ⟨rfl, hb⟩
  clear qT0 fT0 qT1 fT1 qT2 fT2 zT
  have HT := Lib.hid (HT.out.below hb)
  have HB := Lib.hid (below_after hb HB.out)
  clear hb
  obtain ⟨⟨qT0, qT1, qT2⟩, ⟨fT0, fT1, fT2⟩, zT⟩ := HT.out
  go_wp2_with (go_at_call 65; refine (HIN.out _).mono ?_; rintro e wn ⟨rfl, rfl⟩)
  obtain ⟨GL, hGL⟩ : ∃ g, w1.heap.size = g := ⟨_, rfl⟩
  obtain ⟨wL, hwL⟩ : ∃ wx, wx = w1.alloc (.cells #[.int .i64 a, .int .i64 b, .int .i64 c] 24) := ⟨_, rfl⟩
  rw [← hwL, hGL]
  have HY : Hid (OwnT (GT + 1) wL (.slice (some ⟨GL, 0, none⟩) 1 1) ([] ++ [(a, b, c)])) := by
    show OwnT _ _ _ _
    rw [hwL, ← hGL]
    exact own_one w1 (GT + 1) a b c (by have := HT.out.2.2; omega)
  clear qT0 fT0 qT1 fT1 qT2 fT2 zT
  have HT := Lib.hid (HT.out.below ((Below.refl _ _).alloc (Nat.le_refl _) (.cells #[.int .i64 a, .int .i64 b, .int .i64 c] 24)))
  have HB := Lib.hid (Below.alloc HB.out HB.out.size (.cells #[.int .i64 a, .int .i64 b, .int .i64 c] 24))
  rw [← hwL] at HT HB
  clear hwL hGL
  have HLE := Lib.hid le_T
  go_loopw [2, 9] (fun y v wr => ∃ (m : Nat) (a b c : Int) (pre : List T3) (pa : Option Addr) (q cp : Nat), y = .int .i64 (m : Int) ∧ v = .slice pa q cp ∧ m ≤ 300 ∧ q ≤ 301 ∧ q + m ≤ 301 ∧ isSt a b c = true ∧ pre ++ runT k m (a, b, c) = L ∧ OwnT (GT + 1) wr (.slice pa q cp) (pre ++ [(a, b, c)]) ∧ Bk3 wr GT a b c ∧ Below w.heap.size w wr) (fun y _ _ => (intOf y).toNat)
  case atStart => exact ⟨n, a, b, c, [], _, 1, 1, rfl, rfl, HN.out, by omega, by have := HN.out; omega, HS0.out, HL0.out, HY.out, HT.out, HB.out⟩
  case round =>
    obtain ⟨m, a, b, c, pre, pa, q, cp, rfl, rfl, hm, hq, hqm, hs, hl, hY, hT, hbel⟩ := hrel
    clear HT HB HY HS0 HL0
    have HT := Lib.hid hT
    have HB := Lib.hid hbel
    have HY := Lib.hid hY
    have HS := Lib.hid hs
    have HL := Lib.hid hl
    have HQM := Lib.hid hqm
    clear hT hbel hY hs hl hqm
    have le_T := HLE.out
    have HEND := Lib.hid (fun w => l07Ended_any k a b c w HK.out)
    have HSTEP := Lib.hid (fun w => l07Step_any k a b c w HK.out (isSt_B HS.out).1 (isSt_B HS.out).2.1 (isSt_B HS.out).2.2)
    by_cases hm0 : m = 0
    · have HE : Hid (pre ++ [(a, b, c)] = L) := by
        show _ = _
        rw [← HL.out, runT_end (.inl hm0)]
      subst hm0
      rw [show ((0 : Nat) : Int) = 0 from rfl]
      obtain ⟨⟨qT0, qT1, qT2⟩, ⟨fT0, fT1, fT2⟩, zT⟩ := HT.out
      go_wp2_with fail
      refine bodyPost_ret (v := .tuple #[.slice pa q cp, .int .i64 0]) (by simp (maxDischargeDepth := 8) [results, Try.results26, go_sem, *]) rfl ?_
      refine ⟨_, rfl, ?_, HB.out⟩
      rw [← HE.out]
      exact own_up HY.out (by omega)
    · have hpos : 0 < (m : Int) := by omega
      cases he : rEnd k b c
      · rw [he] at HEND
        have HN1 : Hid ((pre ++ [(a, b, c)]) ++ runT k (m - 1) (nxT k (a, b, c)) = L) := by
          show _ = _
          rw [← HL.out, runT_next (k := k) (n := m) (t := (a, b, c)) hm0 he, List.append_assoc]
          rfl
        have HS2 := Lib.hid (nxT_sorted HK.out HS.out he)
        obtain ⟨⟨a', b', c'⟩, hnx⟩ : ∃ s, stT k a b c = s := ⟨_, rfl⟩
        rw [show nxT k (a, b, c) = stT k a b c from rfl, hnx] at HN1
        rw [hnx] at HS2 HSTEP
        simp only at HS2 HSTEP
        have HM1 : Hid (0 < m) := by show _ < _; omega
        have hneY : ∀ kk, (Value.slice pa q cp).ownBlock = some kk → kk ≠ GT := fun kk hk => by have := (World.ownsRow.lt HY.out kk hk).1; omega
        obtain ⟨dn, hdn⟩ : ∃ dn, pre ++ [(a, b, c)] = dn := ⟨_, rfl⟩
        rw [hdn] at HY HN1
        clear he hnx HS HL hm0 hdn
        obtain ⟨⟨qT0, qT1, qT2⟩, ⟨fT0, fT1, fT2⟩, zT⟩ := HT.out
        go_wp2_with fail
        go_at_call 64
        refine (HEND.out _).mono ?_
        rintro e w21 ⟨rfl, hb⟩
        clear qT0 fT0 qT1 fT1 qT2 fT2 zT
        have HT := Lib.hid (HT.out.below hb)
        have HY := Lib.hid (HY.out.below hb)
        have HB := Lib.hid (below_after hb HB.out)
        clear hb
        obtain ⟨⟨qT0, qT1, qT2⟩, ⟨fT0, fT1, fT2⟩, zT⟩ := HT.out
        go_wp2_with fail
        go_at_call 60
        refine (HSTEP.out _).mono ?_
        rintro e w22 ⟨rfl, hb⟩
        clear qT0 fT0 qT1 fT1 qT2 fT2 zT
        have HT := Lib.hid (HT.out.below hb)
        have HY := Lib.hid (HY.out.below hb)
        have HB := Lib.hid (below_after hb HB.out)
        clear hb
        obtain ⟨⟨qT0, qT1, qT2⟩, ⟨fT0, fT1, fT2⟩, zT⟩ := HT.out
        go_upto_region 10 with fail
        obtain ⟨w23, hw23⟩ : ∃ wx, wx = (((w22.setCell ⟨GT, 0, none⟩ (.int .i64 a')).setCell ⟨GT, 1, none⟩ (.int .i64 b')).setCell ⟨GT, 2, none⟩ (.int .i64 c')) := ⟨_, rfl⟩
        rw [← hw23]
        clear qT0 fT0 qT1 fT1 qT2 fT2 zT
        have HT := Lib.hid (((HT.out.set0 a').set1 b').set2 c')
        have HY := Lib.hid (OwnT.far (OwnT.far (OwnT.far HY.out 0 (.int .i64 a') hneY) 1 (.int .i64 b') hneY) 2 (.int .i64 c') hneY)
        have HB := Lib.hid (Below.setCell (Below.setCell (Below.setCell HB.out (p := ⟨GT, 0, none⟩) le_T (.int .i64 a')) (p := ⟨GT, 1, none⟩) le_T (.int .i64 b')) (p := ⟨GT, 2, none⟩) le_T (.int .i64 c'))
        rw [← hw23] at HT HY HB
        clear hw23
        obtain ⟨⟨qT0, qT1, qT2⟩, ⟨fT0, fT1, fT2⟩, zT⟩ := HT.out
        have HYq := Lib.hid (HY.out.below ((Below.refl _ _).alloc (Nat.le_refl _) (.cells #[.int .i64 a', .int .i64 b', .int .i64 c'] 24)))
        have HTq := Lib.hid (HT.out.below ((Below.refl _ _).alloc (Nat.le_refl _) (.cells #[.int .i64 a', .int .i64 b', .int .i64 c'] 24)))
        have HBq := Lib.hid (Below.alloc HB.out HB.out.size (.cells #[.int .i64 a', .int .i64 b', .int .i64 c'] 24))
        have HGB : Hid (GT + 1 ≤ (w23.alloc (.cells #[.int .i64 a', .int .i64 b', .int .i64 c'] 24)).heap.size) := by show _ ≤ _; rw [World.size_alloc]; have := HT.out.2.2; omega
        have HDL : Hid (dn.length = q) := by
          show _ = _
          have h := viewOwnTr HY.out
          obtain ⟨_, _, h, _⟩ := h
          simp only [Value.slice.injEq] at h
          exact h.2.1.symm
        have HDM : Hid (dn.length + 1 ≤ 4194304) := by show _ ≤ _; rw [HDL.out]; omega
        go_wp2_with (at_builtin; refine wpList_app_T1 (B := GT + 1) rfl _ _ rfl HYq.out (a0 := a') (a1 := b') (a2 := c') ?c0 ?c1 ?c2 HGB.out rfl rfl HDM.out ?_)
        case c0 => exact (show _ = some (Value.int .i64 a') by go_cell)
        case c1 => exact (show _ = some (Value.int .i64 b') by go_cell)
        case c2 => exact (show _ = some (Value.int .i64 c') by go_cell)
        intro v5 w5 ho hgrow
        clear qT0 fT0 qT1 fT1 qT2 fT2 zT
        have hno : ∀ k, (Value.slice pa q cp).ownBlock = some k → GT + 1 ≤ k := fun k hk => (World.ownsRow.lt HYq.out k hk).1
        have HT := Lib.hid (HTq.out.grown hgrow (fun e => by have := hno GT e; omega))
        have HB := Lib.hid (Below.grown HBq.out hgrow HBq.out.size (fun k hk => by have := hno k hk; omega))
        obtain ⟨pa5, cp5, rfl⟩ := viewT ho
        obtain ⟨q5, hq5⟩ : ∃ q5, (dn ++ [(a', b', c')]).length = q5 := ⟨_, rfl⟩
        rw [hq5] at ho ⊢
        have HQ5 : Hid (q5 = q + 1) := by show _ = _; rw [← hq5, List.length_append, HDL.out]; rfl
        have HO := Lib.hid ho
        clear ho hgrow hno HYq HTq HBq HGB hneY hq5 HDL HDM
        go_wp2_with fail
        go_roundw
        case rel => exact ⟨m - 1, a', b', c', dn, pa5, q5, cp5, congrArg (Value.int .i64) (by have := HM1.out; omega), rfl, by omega, by have := HQ5.out; have := HQM.out; have := HM1.out; omega, by have := HQ5.out; have := HQM.out; have := HM1.out; omega, HS2.out, HN1.out, HO.out, HT.out, HB.out⟩
        case measure =>
          show ((m : Int) - 1).toNat < (m : Int).toNat
          have := HM1.out
          omega
      · rw [he] at HEND
        have HE : Hid (pre ++ [(a, b, c)] = L) := by
          show _ = _
          rw [← HL.out, runT_end (k := k) (n := m) (t := (a, b, c)) (.inr he)]
        clear he
        obtain ⟨⟨qT0, qT1, qT2⟩, ⟨fT0, fT1, fT2⟩, zT⟩ := HT.out
        go_wp2_with fail
        go_at_call 64
        refine (HEND.out _).mono ?_
        rintro e w21 ⟨rfl, hb⟩
        clear qT0 fT0 qT1 fT1 qT2 fT2 zT
        have HT := Lib.hid (HT.out.below hb)
        have HY := Lib.hid (HY.out.below hb)
        have HB := Lib.hid (below_after hb HB.out)
        clear hb
        obtain ⟨⟨qT0, qT1, qT2⟩, ⟨fT0, fT1, fT2⟩, zT⟩ := HT.out
        go_wp2_with fail
        refine bodyPost_ret (v := .tuple #[.slice pa q cp, .int .i64 0]) (by simp (maxDischargeDepth := 8) [results, Try.results26, go_sem, *]) rfl ?_
        refine ⟨_, rfl, ?_, HB.out⟩
        rw [← HE.out]
        exact own_up HY.out (by omega)
theorem spec_RunTriple_any (a b c r n : Int) (w : World) : Calls Try.prog 26 #[.agg #[.int .i64 a, .int .i64 b, .int .i64 c], .int .i64 r, .int .i64 n] w fun e w' => ∃ v, e = .returned (.tuple #[v, .int .i64 (rcd a b c r n)]) ∧ OwnT w.heap.size w' v (runV a b c r n) ∧ Below w.heap.size w w' := by
  rcases rcd_cases a b c r n with ⟨h0, hs, k, m, rfl, hk, rfl, hm⟩ | ⟨h0, h1⟩
  · unfold runV
    rw [if_pos h0, h0]
    exact spec_RunTriple_ok k hk m hm a b c hs w
  · unfold runV
    rw [if_neg h1]
    have HC := Lib.hid (fun w => l07Code_any a b c r w)
    rcases scd_cases a b c r with ⟨s0, hs, k, rfl, hk⟩ | ⟨s0, s1⟩
    · rw [s0] at HC
      have hn : inB n 0 300 = false := by
        cases h : inB n 0 300
        · rfl
        · exfalso
          apply h1
          unfold rcd
          rw [if_pos hs, if_pos ⟨by omega, inB_iff.1 h⟩]
      have HIN := Lib.hid (fun w => l01In_any n 0 300 w)
      rw [hn] at HIN
      rw [show rcd a b c (k : Int) n = 2 from by unfold rcd; rw [if_pos hs, if_neg (fun h => inB_not.1 hn h.2)]]
      clear h0 h1 s0 hs hn hk
      obtain ⟨GT, hG⟩ : ∃ G, w.heap.size = G := ⟨_, rfl⟩
      have HG := Lib.hid hG
      go_enter Try.func26, Try.ntmps26
      go_upto_region 1 with fail
      obtain ⟨w0, hw0⟩ : ∃ w0, w0 = (w.alloc (.cells #[.int .i64 a, .int .i64 b, .int .i64 c] 24)) := ⟨_, rfl⟩
      rw [← hw0]
      have HT : Hid (Bk3 w0 GT a b c) := by
        have h := (bk3_new w a b c 24).below (W' := (w.alloc (.cells #[.int .i64 a, .int .i64 b, .int .i64 c] 24))) (by (repeat' (first | (with_reducible exact Below.refl _ _) | (with_reducible refine Below.alloc ?_ ?_ _) | (with_reducible refine Below.setCell ?_ ?_ _) | (with_reducible refine Below.drew ?_) | (with_reducible refine below_drewN ?_ _) | (with_reducible assumption) | (with_reducible refine below_after (by with_reducible assumption) ?_) | go_size)))
        (try simp only [World.size_alloc] at h)
        rw [hG] at h
        rw [hw0]; exact h
      have HB : Hid (Below w.heap.size w w0) := by show Below w.heap.size w w0; rw [hw0]; (repeat' (first | (with_reducible exact Below.refl _ _) | (with_reducible refine Below.alloc ?_ ?_ _) | (with_reducible refine Below.setCell ?_ ?_ _) | (with_reducible refine Below.drew ?_) | (with_reducible refine below_drewN ?_ _) | (with_reducible assumption) | (with_reducible refine below_after (by with_reducible assumption) ?_) | go_size))
      clear hw0
      have le_T : w.heap.size ≤ GT := by omega
      obtain ⟨⟨qT0, qT1, qT2⟩, ⟨fT0, fT1, fT2⟩, zT⟩ := HT.out
      go_wp2_with fail
      go_at_call 59
      refine (HC.out _).mono ?_
      rintro e w1 ⟨rfl, hb⟩
      clear qT0 fT0 qT1 fT1 qT2 fT2 zT
      have HT := Lib.hid (HT.out.below hb)
      have HB := Lib.hid (below_after hb HB.out)
      clear hb
      obtain ⟨⟨qT0, qT1, qT2⟩, ⟨fT0, fT1, fT2⟩, zT⟩ := HT.out
      go_wp2_with (go_at_call 65; refine (HIN.out _).mono ?_; rintro e wn ⟨rfl, rfl⟩)
      refine bodyPost_ret (v := .tuple #[.slice none 0 0, .int .i64 2]) (by simp (maxDischargeDepth := 8) [results, Try.results26, go_sem, *]) rfl ?_
      have hb := HB.out
      exact ⟨_, rfl, World.ownsRow_nil _ _ _ _, by (repeat' (first | (with_reducible exact Below.refl _ _) | (with_reducible refine Below.alloc ?_ ?_ _) | (with_reducible refine Below.setCell ?_ ?_ _) | (with_reducible refine Below.drew ?_) | (with_reducible refine below_drewN ?_ _) | (with_reducible assumption) | (with_reducible refine below_after (by with_reducible assumption) ?_) | go_size))⟩
    · have e : rcd a b c r n = scd a b c r := by
        unfold rcd scd at *
        by_cases h : isSt a b c = true
        · simp only [h, if_true] at s1 ⊢
          by_cases h2 : 0 ≤ r ∧ r ≤ 3
          · rw [if_pos h2] at s1; exact absurd rfl s1
          · rw [if_neg h2, if_neg (by omega)]
        · simp only [h]
          rfl
      rw [e]
      obtain ⟨K, hK⟩ : ∃ K, scd a b c r = K := ⟨_, rfl⟩
      rw [hK] at HC s0 ⊢
      clear hK h1 h0 s1 e
      obtain ⟨GT, hG⟩ : ∃ G, w.heap.size = G := ⟨_, rfl⟩
      have HG := Lib.hid hG
      go_enter Try.func26, Try.ntmps26
      go_upto_region 1 with fail
      obtain ⟨w0, hw0⟩ : ∃ w0, w0 = (w.alloc (.cells #[.int .i64 a, .int .i64 b, .int .i64 c] 24)) := ⟨_, rfl⟩
      rw [← hw0]
      have HT : Hid (Bk3 w0 GT a b c) := by
        have h := (bk3_new w a b c 24).below (W' := (w.alloc (.cells #[.int .i64 a, .int .i64 b, .int .i64 c] 24))) (by (repeat' (first | (with_reducible exact Below.refl _ _) | (with_reducible refine Below.alloc ?_ ?_ _) | (with_reducible refine Below.setCell ?_ ?_ _) | (with_reducible refine Below.drew ?_) | (with_reducible refine below_drewN ?_ _) | (with_reducible assumption) | (with_reducible refine below_after (by with_reducible assumption) ?_) | go_size)))
        (try simp only [World.size_alloc] at h)
        rw [hG] at h
        rw [hw0]; exact h
      have HB : Hid (Below w.heap.size w w0) := by show Below w.heap.size w w0; rw [hw0]; (repeat' (first | (with_reducible exact Below.refl _ _) | (with_reducible refine Below.alloc ?_ ?_ _) | (with_reducible refine Below.setCell ?_ ?_ _) | (with_reducible refine Below.drew ?_) | (with_reducible refine below_drewN ?_ _) | (with_reducible assumption) | (with_reducible refine below_after (by with_reducible assumption) ?_) | go_size))
      clear hw0
      have le_T : w.heap.size ≤ GT := by omega
      obtain ⟨⟨qT0, qT1, qT2⟩, ⟨fT0, fT1, fT2⟩, zT⟩ := HT.out
      go_wp2_with fail
      go_at_call 59
      refine (HC.out _).mono ?_
      rintro e w1 ⟨rfl, hb⟩
      clear qT0 fT0 qT1 fT1 qT2 fT2 zT
      have HT := Lib.hid (HT.out.below hb)
      have HB := Lib.hid (below_after hb HB.out)
      clear hb
      obtain ⟨⟨qT0, qT1, qT2⟩, ⟨fT0, fT1, fT2⟩, zT⟩ := HT.out
      go_wp2_with fail
      refine bodyPost_ret (v := .tuple #[.slice none 0 0, .int .i64 K]) (by simp (maxDischargeDepth := 8) [results, Try.results26, go_sem, *]) rfl ?_
      have hb := HB.out
      exact ⟨_, rfl, World.ownsRow_nil _ _ _ _, by (repeat' (first | (with_reducible exact Below.refl _ _) | (with_reducible refine Below.alloc ?_ ?_ _) | (with_reducible refine Below.setCell ?_ ?_ _) | (with_reducible refine Below.drew ?_) | (with_reducible refine below_drewN ?_ _) | (with_reducible assumption) | (with_reducible refine below_after (by with_reducible assumption) ?_) | go_size))⟩
end Go.Proofs.Ytbgifgfegndlkaa
