/-
  The list of best approximations, in the model (own work).
-/
import Derived.Test.YtibmkmcdggokbaaBeP
import Derived.Test.YtibmkmcdggokbaaRowP
namespace Go.Proofs.Ytibmkmcdggokbaa
open Go.ChangeShapes Go.WideShapes Go.ChangeAt Go.RowKit
set_option linter.unusedVariables false
set_option linter.unusedSimpArgs false
set_option maxRecDepth 100000

set_option maxHeartbeats 4000000 in
theorem l10S_any (p q n : Int) (w : World) (h : rtB p q 1 = true) (n1 : 1 ≤ n) (n2 : n ≤ 100000) : Calls Try.prog 25 #[.int .i64 p, .int .i64 q, .int .i64 n, .bool true] w (RetP w (bsP p q (rcS (btK true p q) (n.toNat - 1)).1).length (flat (bsP p q (rcS (btK true p q) (n.toNat - 1)).1))) := by
  have HRT := Lib.hid h
  have HQ := Lib.hid (rtB_iff.1 h)
  have HQ1 : Hid (1 ≤ q) := (rtB_iff.1 h).2.1
  have HS1 := Lib.hid (fun j => rcS_len (bt := btK true p q) j)
  have HS2 := Lib.hid (fun j => rcS_last (bt := btK true p q) j)
  clear h
  go_enter Try.func25, Try.ntmps25
  go_wp2_with fail
  go_loopw [9, 10, 11, 12] (fun ov ev uv kv wr => ∃ (j : Nat) (L : List Int) (e u : Int) (va : Option Addr) (vc : Nat), ov = .slice va L.length vc ∧ ev = .int .i64 e ∧ uv = .int .i64 u ∧ kv = .int .i64 ((j : Int) + 1) ∧ (j : Int) ≤ n ∧ OwnF w.heap.size wr (.slice va L.length vc) L.length (flat (bsP p q L)) ∧ Below w.heap.size w wr ∧ ((j = 0 ∧ L = [] ∧ e = 0 ∧ u = 1) ∨ (1 ≤ j ∧ rcS (btK true p q) (j - 1) = (L, u) ∧ e = nrM (u * p) q))) (fun _ _ _ kv _ => (n + 1 - intOf kv).toNat)
  case atStart => exact ⟨0, [], 0, 1, some ⟨w.heap.size, 0, none⟩, 0, rfl, rfl, rfl, by go_num, by omega, World.ownsRow_lit w #[] 0 (Nat.le_refl _) (by unfold maxLen; omega) rfl, (Below.refl _ _).alloc (Nat.le_refl _) _, Or.inl ⟨rfl, rfl, rfl, rfl⟩⟩
  case round =>
    obtain ⟨j, L, e, u, va, vc, rfl, rfl, rfl, rfl, hjn, hO, hbel, hst⟩ := hrel
    have HO := Lib.hid hO
    have HB := Lib.hid hbel
    clear hO hbel
    by_cases hlt : (j : Int) + 1 ≤ n
    · have HNR : Hid (∀ w, Calls Try.prog 42 #[.int .i64 (((j : Int) + 1) * p), .int .i64 q] w fun e w' => e = .returned (.tuple #[.int .i64 (nrP (((j : Int) + 1) * p) q), .int .i64 (nrM (((j : Int) + 1) * p) q)]) ∧ Below w.heap.size w w') := fun w => l10Near_any p q ((j : Int) + 1) w HRT.out (by omega) (by omega)
      obtain ⟨kb1, kb2⟩ := kp_bd HRT.out (by omega : -1000000 ≤ (j : Int) + 1) (by omega)
      have hEb := nrM_bd (x := ((j : Int) + 1) * p) HQ1.out
      have hqb := HQ.out
      have HSNC : Hid (∀ L : List Int, flat (bsP p q (L ++ [(j : Int) + 1])) = flat (bsP p q L) ++ [nrP (((j : Int) + 1) * p) q, (j : Int) + 1]) := fun L => by rw [bsP_snoc, flat_append]; rfl
      have HBT : Hid (∀ u, btK true p q ((j : Int) + 1) u = decide (nrM (((j : Int) + 1) * p) q < nrM (u * p) q)) := fun u => rfl
      obtain ⟨X, hX⟩ : ∃ X, nrP (((j : Int) + 1) * p) q = X := ⟨_, rfl⟩
      obtain ⟨E, hE⟩ : ∃ X, nrM (((j : Int) + 1) * p) q = X := ⟨_, rfl⟩
      rw [hX, hE] at HNR
      rw [hX] at HSNC
      rw [hE] at HBT hEb
      have HEE := Lib.hid hE
      have HE2 := Lib.hid hE
      obtain ⟨E1, E2⟩ := hEb
      clear hX hE
      go_wp2_with fail
      go_at_call 42
      refine (HNR.out _).mono ?_
      rintro e1 w2 ⟨rfl, hb2⟩
      have HO2 := Lib.hid (HO.out.below hb2)
      have HB2 := Lib.hid (below_after hb2 HB.out)
      have hs2 := HB2.out.size
      have HBX := Lib.hid (HB2.out.alloc hs2 (.cells #[.int .i64 X, .int .i64 ((j : Int) + 1)] 31))
      clear hb2 HNR HO HB
      rcases hst with ⟨rfl, rfl, rfl, rfl⟩ | ⟨hj1, hrc, he⟩
      · have HNX : Hid (rcS (btK true p q) 0 = ([1], 1)) := rfl
        have hL0 : ([] : List Int).length = 0 := rfl
        by_cases hE0 : E = 0
        · subst hE0
          go_wp2_with (at_builtin; refine wpList_app_F1 w (g := w2.heap.size) (a0 := X) (a1 := ((0 : Nat) : Int) + 1) rfl _ _ rfl (World.ownsRow.alloc HO2.out _) (by go_cell) (by go_cell) HBX.out rfl rfl (by simp) ?_; intro v' w4 hO4 hB4; have hO4 := Lib.hid hO4; have hB4 := Lib.hid hB4; obtain ⟨va', vc', rfl, _⟩ := own_viewF hO4.out)
          have hO5 : OwnF w.heap.size w4 (.slice va' 1 vc') 1 (flat (bsP p q [1])) := by
            have := HSNC.out []
            simp only [List.nil_append] at this
            have e1 : ((0 : Nat) : Int) + 1 = 1 := rfl
            rw [e1] at this
            rw [this]; exact hO4.out
          have hz : rcS (btK true p q) (n.toNat - 1) = rcS (btK true p q) 0 := by
            have := best_stop (s := true) (p := p) (n := 0) HQ1.out HEE.out (n.toNat - 1)
            rwa [Nat.zero_add] at this
          go_ret
          exact ⟨_, rfl, by first | (rw [bsP_len, hz, HNX.out]; exact hO5) | (rw [bsP_len, hz]; exact hO5), hB4.out⟩
        · go_wp2_with (at_builtin; refine wpList_app_F1 w (g := w2.heap.size) (a0 := X) (a1 := ((0 : Nat) : Int) + 1) rfl _ _ rfl (World.ownsRow.alloc HO2.out _) (by go_cell) (by go_cell) HBX.out rfl rfl (by simp) ?_; intro v' w4 hO4 hB4; have hO4 := Lib.hid hO4; have hB4 := Lib.hid hB4; obtain ⟨va', vc', rfl, _⟩ := own_viewF hO4.out)
          have hO5 : OwnF w.heap.size w4 (.slice va' 1 vc') 1 (flat (bsP p q [1])) := by
            have := HSNC.out []
            simp only [List.nil_append] at this
            have e1 : ((0 : Nat) : Int) + 1 = 1 := rfl
            rw [e1] at this
            rw [this]; exact hO4.out
          go_roundw
          case rel => exact ⟨1, [1], E, 1, va', vc', by first | rfl | simp, rfl, by first | rfl | go_num, by first | rfl | go_num, by omega, hO5, hB4.out, Or.inr ⟨by omega, HNX.out, HE2.out.symm⟩⟩
          case measure => simp only [intOf]; omega
      · have hl1 := HS1.out (j - 1)
        have hl2 := HS2.out (j - 1)
        rw [hrc] at hl1 hl2
        dsimp only at hl1 hl2
        obtain ⟨l1, l2⟩ := hl1
        obtain ⟨l3, l4⟩ := hl2
        have eb := nrM_bd (x := u * p) HQ1.out
        rw [← he] at eb
        obtain ⟨e1, e2⟩ := eb
        have hne : ((L.length : Int) == 0) = false := by simp; intro hh; rw [hh] at l1; simp at l1
        have hcj : (((j - 1 : Nat) : Int) + 2) = (j : Int) + 1 := by omega
        have hjj : j - 1 + 1 = j := by omega
        have hbt : btK true p q (((j - 1 : Nat) : Int) + 2) (rcS (btK true p q) (j - 1)).2 = decide (E < e) := by rw [hcj, hrc, HBT.out, ← he]
        have HBB := Lib.hid hbt
        have HRC := Lib.hid hrc
        have m1 := mul_bd (a := E) (b := u) (A := 1000000) (B := 1000000) (by omega) (by omega) (by omega) (by omega)
        have m2 := mul_bd (a := e) (b := (j : Int) + 1) (A := 1000000) (B := 1000000) (by omega) (by omega) (by omega) (by omega)
        obtain ⟨m3, m4⟩ := m1
        obtain ⟨m5, m6⟩ := m2
        have HEU := Lib.hid he
        clear hbt hrc he
        by_cases hbb : E < e
        · have HNX : Hid (rcS (btK true p q) j = (L ++ [(j : Int) + 1], (j : Int) + 1)) := by
            have := rcS_yes (bt := btK true p q) (n := j - 1) (by rw [HBB.out]; simpa using hbb)
            rw [hjj, hcj, HRC.out] at this
            exact this
          have hbd : decide (E < e) = true := by simpa using hbb
          by_cases hE0 : E = 0
          · subst hE0
            go_wp2_with (at_builtin; refine wpList_app_F1 w (g := w2.heap.size) (a0 := X) (a1 := (j : Int) + 1) rfl _ _ rfl (World.ownsRow.alloc HO2.out _) (by go_cell) (by go_cell) HBX.out rfl rfl (by omega) ?_; intro v' w4 hO4 hB4; have hO4 := Lib.hid hO4; have hB4 := Lib.hid hB4; obtain ⟨va', vc', rfl, _⟩ := own_viewF hO4.out)
            have hO5 : OwnF w.heap.size w4 (.slice va' (L.length + 1) vc') (L ++ [(j : Int) + 1]).length (flat (bsP p q (L ++ [(j : Int) + 1]))) := by rw [HSNC.out, List.length_append]; exact hO4.out
            have hz : rcS (btK true p q) (n.toNat - 1) = rcS (btK true p q) j := by
              have := best_stop (s := true) (p := p) (n := j) HQ1.out HEE.out (n.toNat - 1 - j)
              have e2 : j + (n.toNat - 1 - j) = n.toNat - 1 := by omega
              rwa [e2] at this
            go_ret
            exact ⟨_, rfl, by rw [bsP_len, hz, HNX.out]; exact hO5, hB4.out⟩
          · go_wp2_with (at_builtin; refine wpList_app_F1 w (g := w2.heap.size) (a0 := X) (a1 := (j : Int) + 1) rfl _ _ rfl (World.ownsRow.alloc HO2.out _) (by go_cell) (by go_cell) HBX.out rfl rfl (by omega) ?_; intro v' w4 hO4 hB4; have hO4 := Lib.hid hO4; have hB4 := Lib.hid hB4; obtain ⟨va', vc', rfl, _⟩ := own_viewF hO4.out)
            have hO5 : OwnF w.heap.size w4 (.slice va' (L.length + 1) vc') (L ++ [(j : Int) + 1]).length (flat (bsP p q (L ++ [(j : Int) + 1]))) := by rw [HSNC.out, List.length_append]; exact hO4.out
            have hll : (L ++ [(j : Int) + 1]).length = L.length + 1 := by simp
            rw [hll] at hO5
            go_roundw
            case rel => exact ⟨j + 1, L ++ [(j : Int) + 1], E, (j : Int) + 1, va', vc', by first | rfl | simp, rfl, rfl, by go_num, by omega, by rw [hll]; exact hO5, hB4.out, Or.inr ⟨by omega, HNX.out, HE2.out.symm⟩⟩
            case measure => simp only [intOf]; omega
        · have HNX : Hid (rcS (btK true p q) j = (L, u)) := by
            have := rcS_no (bt := btK true p q) (n := j - 1) (by rw [HBB.out]; simpa using hbb)
            rw [hjj, HRC.out] at this
            exact this
          have hbd : decide (E < e) = false := by simpa using hbb
          by_cases hE0 : E = 0
          · subst hE0
            have hz : rcS (btK true p q) (n.toNat - 1) = rcS (btK true p q) j := by
              have := best_stop (s := true) (p := p) (n := j) HQ1.out HEE.out (n.toNat - 1 - j)
              have e2 : j + (n.toNat - 1 - j) = n.toNat - 1 := by omega
              rwa [e2] at this
            have HZ := Lib.hid hz
            clear hz
            go_wp2_with fail
            go_ret
            exact ⟨_, rfl, by rw [bsP_len, HZ.out, HNX.out]; exact HO2.out, HB2.out⟩
          · go_wp2_with fail
            go_roundw
            case rel => exact ⟨j + 1, L, e, u, va, vc, rfl, rfl, rfl, by go_num, by omega, HO2.out, HB2.out, Or.inr ⟨by omega, HNX.out, HEU.out⟩⟩
            case measure => simp only [intOf]; omega
    · have hje : j = n.toNat := by omega
      have hj1 : 1 ≤ j := by omega
      rcases hst with ⟨rfl, _⟩ | ⟨_, hrc, he⟩
      · omega
      · have hz : rcS (btK true p q) (n.toNat - 1) = (L, u) := by rw [← hje]; exact hrc
        have HZ := Lib.hid hz
        clear hz hje hrc he
        go_wp2_with fail
        go_ret
        exact ⟨_, rfl, by rw [bsP_len, HZ.out]; exact HO.out, HB.out⟩
set_option maxHeartbeats 4000000 in
theorem l10F_any (p q n : Int) (w : World) (h : rtB p q 1 = true) (n1 : 1 ≤ n) (n2 : n ≤ 100000) : Calls Try.prog 25 #[.int .i64 p, .int .i64 q, .int .i64 n, .bool false] w (RetP w (bsP p q (rcS (btK false p q) (n.toNat - 1)).1).length (flat (bsP p q (rcS (btK false p q) (n.toNat - 1)).1))) := by
  have HRT := Lib.hid h
  have HQ := Lib.hid (rtB_iff.1 h)
  have HQ1 : Hid (1 ≤ q) := (rtB_iff.1 h).2.1
  have HS1 := Lib.hid (fun j => rcS_len (bt := btK false p q) j)
  have HS2 := Lib.hid (fun j => rcS_last (bt := btK false p q) j)
  clear h
  go_enter Try.func25, Try.ntmps25
  go_wp2_with fail
  go_loopw [9, 10, 11, 12] (fun ov ev uv kv wr => ∃ (j : Nat) (L : List Int) (e u : Int) (va : Option Addr) (vc : Nat), ov = .slice va L.length vc ∧ ev = .int .i64 e ∧ uv = .int .i64 u ∧ kv = .int .i64 ((j : Int) + 1) ∧ (j : Int) ≤ n ∧ OwnF w.heap.size wr (.slice va L.length vc) L.length (flat (bsP p q L)) ∧ Below w.heap.size w wr ∧ ((j = 0 ∧ L = [] ∧ e = 0 ∧ u = 1) ∨ (1 ≤ j ∧ rcS (btK false p q) (j - 1) = (L, u) ∧ e = nrM (u * p) q))) (fun _ _ _ kv _ => (n + 1 - intOf kv).toNat)
  case atStart => exact ⟨0, [], 0, 1, some ⟨w.heap.size, 0, none⟩, 0, rfl, rfl, rfl, by go_num, by omega, World.ownsRow_lit w #[] 0 (Nat.le_refl _) (by unfold maxLen; omega) rfl, (Below.refl _ _).alloc (Nat.le_refl _) _, Or.inl ⟨rfl, rfl, rfl, rfl⟩⟩
  case round =>
    obtain ⟨j, L, e, u, va, vc, rfl, rfl, rfl, rfl, hjn, hO, hbel, hst⟩ := hrel
    have HO := Lib.hid hO
    have HB := Lib.hid hbel
    clear hO hbel
    by_cases hlt : (j : Int) + 1 ≤ n
    · have HNR : Hid (∀ w, Calls Try.prog 42 #[.int .i64 (((j : Int) + 1) * p), .int .i64 q] w fun e w' => e = .returned (.tuple #[.int .i64 (nrP (((j : Int) + 1) * p) q), .int .i64 (nrM (((j : Int) + 1) * p) q)]) ∧ Below w.heap.size w w') := fun w => l10Near_any p q ((j : Int) + 1) w HRT.out (by omega) (by omega)
      obtain ⟨kb1, kb2⟩ := kp_bd HRT.out (by omega : -1000000 ≤ (j : Int) + 1) (by omega)
      have hEb := nrM_bd (x := ((j : Int) + 1) * p) HQ1.out
      have hqb := HQ.out
      have HSNC : Hid (∀ L : List Int, flat (bsP p q (L ++ [(j : Int) + 1])) = flat (bsP p q L) ++ [nrP (((j : Int) + 1) * p) q, (j : Int) + 1]) := fun L => by rw [bsP_snoc, flat_append]; rfl
      have HBT : Hid (∀ u, btK false p q ((j : Int) + 1) u = decide (nrM (((j : Int) + 1) * p) q * u < nrM (u * p) q * ((j : Int) + 1))) := fun u => rfl
      obtain ⟨X, hX⟩ : ∃ X, nrP (((j : Int) + 1) * p) q = X := ⟨_, rfl⟩
      obtain ⟨E, hE⟩ : ∃ X, nrM (((j : Int) + 1) * p) q = X := ⟨_, rfl⟩
      rw [hX, hE] at HNR
      rw [hX] at HSNC
      rw [hE] at HBT hEb
      have HEE := Lib.hid hE
      have HE2 := Lib.hid hE
      obtain ⟨E1, E2⟩ := hEb
      clear hX hE
      go_wp2_with fail
      go_at_call 42
      refine (HNR.out _).mono ?_
      rintro e1 w2 ⟨rfl, hb2⟩
      have HO2 := Lib.hid (HO.out.below hb2)
      have HB2 := Lib.hid (below_after hb2 HB.out)
      have hs2 := HB2.out.size
      have HBX := Lib.hid (HB2.out.alloc hs2 (.cells #[.int .i64 X, .int .i64 ((j : Int) + 1)] 31))
      clear hb2 HNR HO HB
      rcases hst with ⟨rfl, rfl, rfl, rfl⟩ | ⟨hj1, hrc, he⟩
      · have HNX : Hid (rcS (btK false p q) 0 = ([1], 1)) := rfl
        have hL0 : ([] : List Int).length = 0 := rfl
        by_cases hE0 : E = 0
        · subst hE0
          go_wp2_with (at_builtin; refine wpList_app_F1 w (g := w2.heap.size) (a0 := X) (a1 := ((0 : Nat) : Int) + 1) rfl _ _ rfl (World.ownsRow.alloc HO2.out _) (by go_cell) (by go_cell) HBX.out rfl rfl (by simp) ?_; intro v' w4 hO4 hB4; have hO4 := Lib.hid hO4; have hB4 := Lib.hid hB4; obtain ⟨va', vc', rfl, _⟩ := own_viewF hO4.out)
          have hO5 : OwnF w.heap.size w4 (.slice va' 1 vc') 1 (flat (bsP p q [1])) := by
            have := HSNC.out []
            simp only [List.nil_append] at this
            have e1 : ((0 : Nat) : Int) + 1 = 1 := rfl
            rw [e1] at this
            rw [this]; exact hO4.out
          have hz : rcS (btK false p q) (n.toNat - 1) = rcS (btK false p q) 0 := by
            have := best_stop (s := false) (p := p) (n := 0) HQ1.out HEE.out (n.toNat - 1)
            rwa [Nat.zero_add] at this
          go_ret
          exact ⟨_, rfl, by first | (rw [bsP_len, hz, HNX.out]; exact hO5) | (rw [bsP_len, hz]; exact hO5), hB4.out⟩
        · go_wp2_with (at_builtin; refine wpList_app_F1 w (g := w2.heap.size) (a0 := X) (a1 := ((0 : Nat) : Int) + 1) rfl _ _ rfl (World.ownsRow.alloc HO2.out _) (by go_cell) (by go_cell) HBX.out rfl rfl (by simp) ?_; intro v' w4 hO4 hB4; have hO4 := Lib.hid hO4; have hB4 := Lib.hid hB4; obtain ⟨va', vc', rfl, _⟩ := own_viewF hO4.out)
          have hO5 : OwnF w.heap.size w4 (.slice va' 1 vc') 1 (flat (bsP p q [1])) := by
            have := HSNC.out []
            simp only [List.nil_append] at this
            have e1 : ((0 : Nat) : Int) + 1 = 1 := rfl
            rw [e1] at this
            rw [this]; exact hO4.out
          go_roundw
          case rel => exact ⟨1, [1], E, 1, va', vc', by first | rfl | simp, rfl, by first | rfl | go_num, by first | rfl | go_num, by omega, hO5, hB4.out, Or.inr ⟨by omega, HNX.out, HE2.out.symm⟩⟩
          case measure => simp only [intOf]; omega
      · have hl1 := HS1.out (j - 1)
        have hl2 := HS2.out (j - 1)
        rw [hrc] at hl1 hl2
        dsimp only at hl1 hl2
        obtain ⟨l1, l2⟩ := hl1
        obtain ⟨l3, l4⟩ := hl2
        have eb := nrM_bd (x := u * p) HQ1.out
        rw [← he] at eb
        obtain ⟨e1, e2⟩ := eb
        have hne : ((L.length : Int) == 0) = false := by simp; intro hh; rw [hh] at l1; simp at l1
        have hcj : (((j - 1 : Nat) : Int) + 2) = (j : Int) + 1 := by omega
        have hjj : j - 1 + 1 = j := by omega
        have hbt : btK false p q (((j - 1 : Nat) : Int) + 2) (rcS (btK false p q) (j - 1)).2 = decide (E * u < e * ((j : Int) + 1)) := by rw [hcj, hrc, HBT.out, ← he]
        have HBB := Lib.hid hbt
        have HRC := Lib.hid hrc
        have m1 := mul_bd (a := E) (b := u) (A := 1000000) (B := 1000000) (by omega) (by omega) (by omega) (by omega)
        have m2 := mul_bd (a := e) (b := (j : Int) + 1) (A := 1000000) (B := 1000000) (by omega) (by omega) (by omega) (by omega)
        obtain ⟨m3, m4⟩ := m1
        obtain ⟨m5, m6⟩ := m2
        have HEU := Lib.hid he
        clear hbt hrc he
        by_cases hbb : E * u < e * ((j : Int) + 1)
        · have HNX : Hid (rcS (btK false p q) j = (L ++ [(j : Int) + 1], (j : Int) + 1)) := by
            have := rcS_yes (bt := btK false p q) (n := j - 1) (by rw [HBB.out]; simpa using hbb)
            rw [hjj, hcj, HRC.out] at this
            exact this
          have hbd : decide (E * u < e * ((j : Int) + 1)) = true := by simpa using hbb
          by_cases hE0 : E = 0
          · subst hE0
            go_wp2_with (at_builtin; refine wpList_app_F1 w (g := w2.heap.size) (a0 := X) (a1 := (j : Int) + 1) rfl _ _ rfl (World.ownsRow.alloc HO2.out _) (by go_cell) (by go_cell) HBX.out rfl rfl (by omega) ?_; intro v' w4 hO4 hB4; have hO4 := Lib.hid hO4; have hB4 := Lib.hid hB4; obtain ⟨va', vc', rfl, _⟩ := own_viewF hO4.out)
            have hO5 : OwnF w.heap.size w4 (.slice va' (L.length + 1) vc') (L ++ [(j : Int) + 1]).length (flat (bsP p q (L ++ [(j : Int) + 1]))) := by rw [HSNC.out, List.length_append]; exact hO4.out
            have hz : rcS (btK false p q) (n.toNat - 1) = rcS (btK false p q) j := by
              have := best_stop (s := false) (p := p) (n := j) HQ1.out HEE.out (n.toNat - 1 - j)
              have e2 : j + (n.toNat - 1 - j) = n.toNat - 1 := by omega
              rwa [e2] at this
            go_ret
            exact ⟨_, rfl, by rw [bsP_len, hz, HNX.out]; exact hO5, hB4.out⟩
          · go_wp2_with (at_builtin; refine wpList_app_F1 w (g := w2.heap.size) (a0 := X) (a1 := (j : Int) + 1) rfl _ _ rfl (World.ownsRow.alloc HO2.out _) (by go_cell) (by go_cell) HBX.out rfl rfl (by omega) ?_; intro v' w4 hO4 hB4; have hO4 := Lib.hid hO4; have hB4 := Lib.hid hB4; obtain ⟨va', vc', rfl, _⟩ := own_viewF hO4.out)
            have hO5 : OwnF w.heap.size w4 (.slice va' (L.length + 1) vc') (L ++ [(j : Int) + 1]).length (flat (bsP p q (L ++ [(j : Int) + 1]))) := by rw [HSNC.out, List.length_append]; exact hO4.out
            have hll : (L ++ [(j : Int) + 1]).length = L.length + 1 := by simp
            rw [hll] at hO5
            go_roundw
            case rel => exact ⟨j + 1, L ++ [(j : Int) + 1], E, (j : Int) + 1, va', vc', by first | rfl | simp, rfl, rfl, by go_num, by omega, by rw [hll]; exact hO5, hB4.out, Or.inr ⟨by omega, HNX.out, HE2.out.symm⟩⟩
            case measure => simp only [intOf]; omega
        · have HNX : Hid (rcS (btK false p q) j = (L, u)) := by
            have := rcS_no (bt := btK false p q) (n := j - 1) (by rw [HBB.out]; simpa using hbb)
            rw [hjj, HRC.out] at this
            exact this
          have hbd : decide (E * u < e * ((j : Int) + 1)) = false := by simpa using hbb
          by_cases hE0 : E = 0
          · subst hE0
            have hz : rcS (btK false p q) (n.toNat - 1) = rcS (btK false p q) j := by
              have := best_stop (s := false) (p := p) (n := j) HQ1.out HEE.out (n.toNat - 1 - j)
              have e2 : j + (n.toNat - 1 - j) = n.toNat - 1 := by omega
              rwa [e2] at this
            have HZ := Lib.hid hz
            clear hz
            go_wp2_with fail
            go_ret
            exact ⟨_, rfl, by rw [bsP_len, HZ.out, HNX.out]; exact HO2.out, HB2.out⟩
          · go_wp2_with fail
            go_roundw
            case rel => exact ⟨j + 1, L, e, u, va, vc, rfl, rfl, rfl, by go_num, by omega, HO2.out, HB2.out, Or.inr ⟨by omega, HNX.out, HEU.out⟩⟩
            case measure => simp only [intOf]; omega
    · have hje : j = n.toNat := by omega
      have hj1 : 1 ≤ j := by omega
      rcases hst with ⟨rfl, _⟩ | ⟨_, hrc, he⟩
      · omega
      · have hz : rcS (btK false p q) (n.toNat - 1) = (L, u) := by rw [← hje]; exact hrc
        have HZ := Lib.hid hz
        clear hz hje hrc he
        go_wp2_with fail
        go_ret
        exact ⟨_, rfl, by rw [bsP_len, HZ.out]; exact HO.out, HB.out⟩
end Go.Proofs.Ytibmkmcdggokbaa
