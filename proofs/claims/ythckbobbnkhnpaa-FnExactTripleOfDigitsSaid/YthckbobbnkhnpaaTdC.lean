/-
  The copy of a list of lists; digits that are whole (own work).
-/
import Derived.Test.YthckbobbnkhnpaaTdH
namespace Go.Proofs.Ythckbobbnkhnpaa
open Go.ChangeShapes Go.WideShapes Go.ChangeAt Go.RowKit
set_option linter.unusedVariables false
set_option linter.unusedSimpArgs false
set_option maxRecDepth 100000

theorem info_ints : (Try.prog.info? 34).map (fun i => (i.zero, i.size, i.bytes)) = some (some (.slice none 0 0), 1, 24) := by kernel_rfl
theorem valSS_len (rs : List Rw4) : (valSS rs).length = rs.length := by simp [valSS]
theorem valSS_at (rs : List Rw4) (k : Nat) (h : k < rs.length) : (valSS rs).getD k [] = (rs.getD k rw0).2.2.2.take (rs.getD k rw0).2.1 := by simp [valSS, List.getD, h]
set_option maxHeartbeats 1600000 in
theorem toInt64SS_any (a : Option Addr) (len cap : Nat) (rs : List Rw4) (w : World) (h : ArgSS w a len rs) (hm : len ≤ 1048576) (hmm : ∀ i, i < len → (rs.getD i rw0).2.1 ≤ 1048576) :
    Calls Try.prog 6 #[.slice a len cap] w fun e w' => ∃ v vs, e = .returned v ∧ OwnSS w.heap.size w' v vs (valSS rs) ∧ Below w.heap.size w w' := by
  obtain ⟨i0, hi, hz0, hz1, hz2⟩ := info_parts info_ints
  have HA := Lib.hid h
  have HM := Lib.hid hmm
  have HRL := Lib.hid h.1
  clear h hmm
  go_enter Try.func6, Try.ntmps6
  go_wp2_with (at_make; refine wpList_make_full _ rfl _ _ 22 rfl w.heap.size 34 i0 (.slice none 0 0) 1 Try.underlying22 hi hz0 hz1 .i64 .i64 _ _ len rfl rfl rfl rfl (by rw [hz2]; omega) (by unfold maxLen; omega) (Nat.le_refl _) ?_; intro w1 hown hgr)
  have HO := Lib.hid hown
  have HB : Hid (Below w.heap.size w w1) := (Below.refl _ _).grown hgr (Nat.le_refl _) (fun k hk => by cases hk)
  obtain ⟨g, hg⟩ : ∃ g, g = w.heap.size := ⟨_, rfl⟩
  have HG := Lib.hid hg
  have hLen : Hid ((madeCells (Value.slice none 0 0).cells (len * 1)).toList.length = len) := by have := hown.1; show _ = len; omega
  rw [← hg] at HO ⊢
  clear hown hgr hg
  go_wp2
  go_loopw [4] (fun i wr => ∃ (k : Nat) (ys : List Value), k ≤ len ∧ i = .int .i64 k ∧ ys.length = len ∧ wr.ownsRow g 34 1 (.slice (some ⟨g, 0, none⟩) len len) len ys ∧ (∀ j, j < k → OwnI (g + 1) wr (ys.getD j .nilIface) ((valSS rs).getD j [])) ∧ (∀ i j b, i < k → j < k → i ≠ j → (ys.getD i .nilIface).ownBlock = some b → (ys.getD j .nilIface).ownBlock ≠ some b) ∧ g < wr.heap.size ∧ Below w.heap.size w wr) (fun i _ => len - (intOf i).toNat)
  case atStart => exact ⟨0, _, by omega, rfl, hLen.out, HO.out, fun j hj => by omega, fun i j b hi => by omega, ((World.ownsRow.lt HO.out g rfl).2), HB.out⟩
  case round =>
    obtain ⟨k, ys, hk, rfl, hyl, hown, hys, hdj, hgw, hbel⟩ := hrel
    have HW := Lib.hid hown
    have HY := Lib.hid hys
    have HYL := Lib.hid hyl
    have HD := Lib.hid hdj
    have HBL := Lib.hid hbel
    clear hown hys hyl hdj
    by_cases hlt : k < len
    · obtain ⟨b, off, rfl, hbw, hc⟩ := (HA.out.below hbel).2 (by omega)
      have e1 := (hc k hlt).1
      have HRW := Lib.hid (hc k hlt).2
      have HMK := Lib.hid (HM.out k hlt)
      have HVK := Lib.hid (valSS_at rs k (by rw [HRL.out]; exact hlt))
      obtain ⟨r, hr⟩ : ∃ r, rs.getD k rw0 = r := ⟨_, rfl⟩
      rw [hr] at e1 HRW HMK HVK
      obtain ⟨ra, rl, rc, rz⟩ := r
      dsimp only at e1 HRW HMK HVK
      clear hc hr
      have i0 : (0 : Int) ≤ (k : Int) := by omega
      have i1 : (k : Int) < (len : Int) := by omega
      go_wp2_with fail
      go_at_call 14
      refine (toInt64S_any ra rl rc rz wr HRW.out HMK.out).mono ?_
      rintro e w2 ⟨v', rfl, ho2, hb2⟩
      obtain ⟨a2, n2, c2, rfl⟩ : ∃ a n c, v' = .slice a n c := by
        obtain ⟨a2, c2, e, _⟩ := own_view ho2
        exact ⟨_, _, _, e⟩
      obtain ⟨v', hv'⟩ : ∃ v', v' = Value.slice a2 n2 c2 := ⟨_, rfl⟩
      rw [← hv'] at ho2
      have HW2 := Lib.hid (own_below HW.out hb2)
      have e2 := World.ownsRow.cellAt HW2.out k (by omega)
      have e3 := World.ownsRow.frozenAt HW2.out k
      have hst := World.ownsRow.stored HW2.out k v'
      have S1 := Lib.hid hst.1
      have S2 := Lib.hid hst.2
      obtain ⟨old, hold⟩ : ∃ old, ys[k]? = some old := ⟨_, List.getElem?_eq_getElem (by rw [HYL.out]; exact hlt)⟩
      rw [hold] at e2
      have HB2 : Hid (Below w.heap.size w (w2.setCell ⟨g, k, none⟩ v')) := (below_after hb2 hbel).setCell (by show w.heap.size ≤ g; rw [HG.out]; exact Nat.le_refl _) _
      have HV2 : Hid (OwnI (wr.heap.size) w2 v' ((valSS rs).getD k [])) := by show OwnI _ _ _ _; rw [HVK.out]; exact ho2
      have HINN : Hid (∀ j, j < k + 1 → OwnI (g + 1) (w2.setCell ⟨g, k, none⟩ v') ((ys.set k v').getD j .nilIface) ((valSS rs).getD j [])) := by
        intro j hj
        have keep : ∀ (u : Value) (zs : List Int), OwnI (g + 1) w2 u zs → OwnI (g + 1) (w2.setCell ⟨g, k, none⟩ v') u zs := fun u zs hu => by
          refine World.ownsRow.kept hu S2.out ?_
          cases hob : u.ownBlock with
          | none => exact .inl rfl
          | some q =>
            right
            have := (World.ownsRow.lt hu q hob).1
            intro e; cases e; omega
        by_cases hjk : j = k
        · subst hjk
          rw [show (ys.set j v').getD j .nilIface = v' by simp [List.getD, HYL.out, hlt]]
          refine keep _ _ ?_
          have := HV2.out
          refine ⟨this.1, ?_⟩
          rcases this.2 with h' | ⟨q, cq, cu, h1, h2, h3⟩
          · exact .inl h'
          · exact .inr ⟨q, cq, cu, h1, by omega, h3⟩
        · rw [show (ys.set k v').getD j .nilIface = ys.getD j .nilIface by simp [List.getD, List.getElem?_set, Ne.symm hjk]]
          exact keep _ _ ((HY.out j (by omega)).below hb2)
      have HDIS : Hid (∀ i j b, i < k + 1 → j < k + 1 → i ≠ j → ((ys.set k v').getD i .nilIface).ownBlock = some b → ((ys.set k v').getD j .nilIface).ownBlock ≠ some b) := by
        have old : ∀ j b, j < k → (ys.getD j .nilIface).ownBlock = some b → b < wr.heap.size := fun j b hj hb => (World.ownsRow.lt (HY.out j hj) b hb).2
        have new : ∀ b, v'.ownBlock = some b → wr.heap.size ≤ b := fun b hb => (World.ownsRow.lt HV2.out b hb).1
        have at_k : (ys.set k v').getD k .nilIface = v' := by simp [List.getD, HYL.out, hlt]
        have at_j : ∀ j, j ≠ k → (ys.set k v').getD j .nilIface = ys.getD j .nilIface := fun j hj => by simp [List.getD, List.getElem?_set, Ne.symm hj]
        intro i j b hi hj hij hb hb2
        by_cases hik : i = k
        · subst hik
          rw [at_k] at hb
          rw [at_j j (fun h => hij h.symm)] at hb2
          have := old j b (by omega) hb2
          have := new b hb
          omega
        · rw [at_j i hik] at hb
          by_cases hjk : j = k
          · subst hjk
            rw [at_k] at hb2
            have := old i b (by omega) hb
            have := new b hb2
            omega
          · rw [at_j j hjk] at hb2
            exact HD.out i j b (by omega) (by omega) hij hb hb2
      have HSZ : Hid (g < (w2.setCell ⟨g, k, none⟩ v').heap.size) := by
        have := hb2.size
        show g < _
        simp only [World.size_setCell]
        omega
      clear hst hold ho2 hb2 hbel
      subst hv'
      go_wp2
      go_roundw
      case rel =>
        refine ⟨k + 1, _, by omega, by go_num, ?_, S1.out, HINN.out, HDIS.out, HSZ.out, HB2.out⟩
        rw [List.length_set]; exact HYL.out
      case measure => simp [intOf]; omega
    · have hge : ¬ (k : Int) < (len : Int) := by omega
      have hkl : k = len := by omega
      go_wp2
      go_ret
      refine ⟨_, rfl, ⟨ys, ?_, fun i hi => ?_, fun i j b hi hj => ?_⟩, HBL.out⟩
      · rw [valSS_len, HRL.out, ← HG.out]; exact HW.out
      · rw [valSS_len, HRL.out] at hi
        have := HY.out i (by omega)
        refine ⟨this.1, ?_⟩
        rcases this.2 with h' | ⟨q, cq, cu, h1, h2, h3⟩
        · exact .inl h'
        · exact .inr ⟨q, cq, cu, h1, by rw [← HG.out]; omega, h3⟩
      · rw [valSS_len, HRL.out] at hi hj
        exact HD.out i j b (by omega) (by omega)
theorem areWhole_two (a b : Int) (g cap : Nat) (w : World) (c0 : w.cell? ⟨g, 0, none⟩ = some (.int .i64 a)) (c1 : w.cell? ⟨g, 1, none⟩ = some (.int .i64 b)) (hg : g < w.heap.size) :
    Calls Try.prog 20 #[.slice (some ⟨g, 0, none⟩) 2 cap] w fun e w' => e = .returned (.bool (wh a && wh b)) ∧ w = w' := by
  have w1 : ∀ n : Int, wh n = (!(decide (n < 0)) && !(decide (1000000 < n))) := fun n => by
    unfold wh inB
    by_cases h1 : n < 0 <;> by_cases h2 : 1000000 < n <;> simp [h1, h2] <;> omega
  rw [w1 a, w1 b]
  clear w1
  cases a0 : decide (a < 0) <;> cases a1 : decide (1000000 < a)
  case false.false =>
    cases b0 : decide (b < 0) <;> cases b1 : decide (1000000 < b)
    all_goals
      go_enter Try.func20, Try.ntmps20
      go_wp2
      refine wp_loop_rounds 3 ?_
      rw [rounds_succ]
      go_wp2
      rw [rounds_succ]
      go_wp2
      try (rw [rounds_succ]; go_wp2)
      go_ret
      exact ⟨rfl, rfl⟩
  all_goals
    go_enter Try.func20, Try.ntmps20
    go_wp2
    refine wp_loop_rounds 3 ?_
    rw [rounds_succ]
    go_wp2
    go_ret
    exact ⟨rfl, rfl⟩
theorem areDigits_any (a : Option Addr) (n cap : Nat) (vs : List Value) (xss : List (List Int)) (w : World) (h : RdSS w a n vs xss) (hm : n ≤ 1048576) (hmm : ∀ i, i < n → (xss.getD i []).length ≤ 1048576) :
    Calls Try.prog 16 #[.slice a n cap] w fun e w' => e = .returned (.bool (okD xss)) ∧ w = w' := by
  have HA := Lib.hid h
  have HMM := Lib.hid hmm
  have HXL := Lib.hid h.2.1
  clear h hmm
  go_enter Try.func16, Try.ntmps16
  go_wp2
  go_loopw [7] (fun i wr => ∃ k : Nat, k ≤ n ∧ i = .int .i64 k ∧ (xss.take k).all okP = true ∧ w = wr) (fun i _ => n - (intOf i).toNat)
  case atStart => exact ⟨0, by omega, rfl, rfl, rfl⟩
  case round =>
    obtain ⟨k, hk, rfl, hall, rfl⟩ := hrel
    have HALL := Lib.hid hall
    clear hall
    by_cases hlt : k < n
    · obtain ⟨b, rfl, hb, hc⟩ := HA.out.2.2.1 (by omega)
      have e1 := hc k hlt
      obtain ⟨ai, ci, hv, hcs⟩ := HA.out.2.2.2 k hlt
      rw [hv] at e1
      have HLE := Lib.hid (HMM.out k hlt)
      have hk' : k < xss.length := by rw [HXL.out]; exact hlt
      have hget : xss.getD k [] = xss[k] := by simp [List.getD, hk']
      have HMEM : Hid (xss.getD k [] ∈ xss) := by show _ ∈ _; rw [hget]; exact List.getElem_mem hk'
      have HT : Hid ((xss.take (k + 1)).all okP = okP (xss.getD k [])) := by
        show _ = _
        rw [List.take_succ_eq_append_getElem hk', List.all_append, HALL.out, hget]; simp
      have HNO : Hid (okP (xss.getD k []) = false → okD xss = false) := by
        intro hno
        have : xss.all okP = false := by
          rw [List.all_eq_false]
          exact ⟨_, HMEM.out, by rw [hno]; simp⟩
        unfold okD; rw [this]; rfl
      obtain ⟨p, hp⟩ : ∃ p, xss.getD k [] = p := ⟨_, rfl⟩
      rw [hp] at e1 hcs HLE HT HNO
      clear hc hv hget hk' hp HMEM
      have i0 : (0 : Int) ≤ (k : Int) := by omega
      have i1 : (k : Int) < (n : Int) := by omega
      have hpl := HLE.out
      by_cases h2 : p.length = 2
      · obtain ⟨g, rfl, hg, hcg⟩ := hcs (by omega)
        have c0 := hcg 0 (by omega)
        have c1 := hcg 1 (by omega)
        rw [h2] at e1
        have HAW := Lib.hid (areWhole_two (p.getD 0 0) (p.getD 1 0) g ci w c0 c1 hg)
        have HOK : Hid (okP p = (wh (p.getD 0 0) && wh (p.getD 1 0))) := by show _ = _; unfold okP; rw [h2]; rfl
        generalize (wh (p.getD 0 0) && wh (p.getD 1 0)) = q at *
        clear hcg c0 c1 hpl h2
        cases q
        · go_wp2_with (go_at_call 20; refine (HAW.out).mono ?_; rintro e wn ⟨rfl, rfl⟩)
          go_ret
          exact ⟨by rw [HNO.out HOK.out]; rfl, rfl⟩
        · go_wp2_with (go_at_call 20; refine (HAW.out).mono ?_; rintro e wn ⟨rfl, rfl⟩)
          go_roundw
          case rel => exact ⟨k + 1, by omega, by go_num, by rw [HT.out, HOK.out], by trivial⟩
          case measure => simp [intOf]; omega
      · have hne : ¬ ((p.length : Nat) : Int) = 2 := by omega
        have hne2 : (((p.length : Nat) : Int) == 2) = false := by simpa using hne
        have HOK : Hid (okP p = false) := by show _ = _; unfold okP; rw [show (p.length == 2) = false by simpa using h2]; rfl
        clear hcs
        go_wp2
        go_ret
        exact ⟨by rw [HNO.out HOK.out]; rfl, rfl⟩
    · have hge : ¬ (k : Int) < (n : Int) := by omega
      have HF : Hid (okD xss = decide (((n : Nat) : Int) ≤ 60)) := by
        show _ = _
        have := HALL.out
        rw [List.take_of_length_le (by rw [HXL.out]; omega)] at this
        unfold okD
        rw [this, HXL.out]
        by_cases h60 : n ≤ 60
        · simp [h60]; omega
        · have : ¬ ((n : Int) ≤ 60) := by omega
          simp [h60, this]
      by_cases h60 : ((n : Int) ≤ 60)
      · go_wp2
        go_ret
        exact ⟨by rw [HF.out]; simp [h60], rfl⟩
      · have hd : decide ((n : Int) ≤ 60) = false := by simpa using h60
        go_wp2
        go_ret
        exact ⟨by rw [HF.out]; simp [h60], rfl⟩
end Go.Proofs.Ythckbobbnkhnpaa
