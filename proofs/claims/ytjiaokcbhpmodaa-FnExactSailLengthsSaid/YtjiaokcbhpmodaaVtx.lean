/-
  Contracts of chapter 3's SailVertices on both sides (own work; written by tools/mkvtx.py).
-/
import Derived.Test.YtjiaokcbhpmodaaPrt
import Derived.Test.YtjiaokcbhpmodaaPaN
import Derived.Test.YtjiaokcbhpmodaaPla
namespace Go.Proofs.Ytjiaokcbhpmodaa
open Go.ChangeShapes Go.WideShapes Go.ChangeAt Go.RowKit
set_option linter.unusedVariables false
set_option linter.unusedSimpArgs false

theorem kp_app {W w1 : World} {o : Obj} {row : Option Nat} {q : Nat} (hq : q < W.heap.size) (hg : (W.alloc o).grownBy w1 row) (hne : row ≠ some q) : Kp W w1 q :=
  (Kp.alloc hq).trans (Kp.grown (by simp only [World.size_alloc]; omega) hg hne)
theorem far_app {v v' : Value} {q n s : Nat} (hat : v'.ownBlock = v.ownBlock ∨ v'.ownBlock = some (n + s)) (hv : v.ownBlock ≠ some q) (hq : q < n) : v'.ownBlock ≠ some q := by
  rcases hat with h | h
  · rw [h]; exact hv
  · rw [h]; intro e; simp at e; omega
theorem own_1F (w : World) (x y : Int) : OwnF w.heap.size (w.alloc (.cells #[.int .i64 x, .int .i64 y] 24)) (.slice (some ⟨w.heap.size, 0, none⟩) 1 1) 1 [x, y] :=
  ⟨rfl, .inr ⟨w.heap.size, 1, _, rfl, Nat.le_refl _, Go.heap_alloc_new w _, Nat.le_refl _, by unfold maxLen; omega, rfl, rfl⟩⟩
/-- The vertices. -/
def vxF (L : List (Int × Int)) (p : Nat × Nat) : Int × Int := L.getD p.2 (0, 0)
def vxP (L : List (Int × Int)) (pre : List (Nat × Nat)) : List (Int × Int) := L.getD 0 (0, 0) :: pre.map (vxF L)
def vxL (L : List (Int × Int)) (cs : List Int) : List (Int × Int) := vxP L (ptsL cs)
def vxS (a b : Int × Int) : List (Int × Int) := if slC a b = 0 then vxL (slL a b) (cnL a b) else []
theorem vxP_len (L : List (Int × Int)) (pre : List (Nat × Nat)) : (vxP L pre).length = pre.length + 1 := by simp [vxP]
theorem vxP_snoc (L : List (Int × Int)) (pre : List (Nat × Nat)) (p : Nat × Nat) : flat (vxP L (pre ++ [p])) = flat (vxP L pre) ++ [(vxF L p).1, (vxF L p).2] := by
  unfold vxP
  rw [List.map_append, ← List.cons_append, flat_append]
  rfl
theorem vxS_len (a b : Int × Int) : (vxS a b).length ≤ 2001 := by
  unfold vxS
  split
  · unfold vxL
    rw [vxP_len]
    have h1 := ptsL_len (cnL a b)
    have h2 := (cnL_of a b).1
    have h3 := slL_len a b
    omega
  · simp
theorem take_snocP (xs : List (Nat × Nat)) (j : Nat) (h : j < xs.length) : xs.take (j + 1) = xs.take j ++ [xs.getD j (0, 0)] := by
  rw [List.take_add_one, List.getElem?_eq_getElem h]
  simp [List.getD, h]
theorem sl_head {a b : Int × Int} (h : slC a b = 0) : (slL a b).getD 0 (0, 0) = a := by
  rcases sl_cases a b with ⟨_, h1, e, _, _, _⟩ | ⟨h1, _⟩
  · rw [e, slI_step h1]; rfl
  · exact absurd h h1
theorem retpnc_num {w w' : World} {L : List (Int × Int)} {ns : List Int} {C : Int} {e : Ending} {n : Nat} (h : RetPNC w L ns C e w') (hn : L.length = n) (hm : ns.length = n) (h1 : 1 ≤ n) :
    ∃ g cp q nc, e = .returned (.tuple #[.slice (some ⟨g, 0, none⟩) n cp, .slice (some ⟨q, 0, none⟩) n nc, .int .i64 C]) ∧ w.heap.size ≤ g ∧ PtsAt w' g L ∧ w.heap.size ≤ q ∧ NumAt w' q ns ∧ Below w.heap.size w w' := by
  obtain ⟨g, cp, na, nc, rfl, hg, hp, hi, hb⟩ := retpnc_some h hn h1
  obtain ⟨a, c, e, hv⟩ := own_view hi
  obtain ⟨q, rfl, hq, _⟩ := hv (by omega)
  simp only [Value.slice.injEq] at e
  obtain ⟨rfl, _, rfl⟩ := e
  refine ⟨g, cp, q, nc, by rw [hm], hg, hp, hq, NumAt.own hi (by omega), hb⟩
set_option maxHeartbeats 8000000 in
theorem impl_SailVertices_some (a b c d : Int) (L : List (Int × Int)) (cs : List Int) (n : Nat) (w : World) (h0 : L.getD 0 (0, 0) = (a, b)) (hN : L.length = n) (h2 : 2 ≤ n) (hl : n ≤ 2000) (hcs : CsOf L cs)
    (hSP : ∀ w, Calls Try.prog 18 #[.agg #[.int .i64 a, .int .i64 b], .agg #[.int .i64 c, .int .i64 d]] w (RetPC w L 0)) :
    Calls Try.prog 23 #[.agg #[.int .i64 a, .int .i64 b], .agg #[.int .i64 c, .int .i64 d]] w (RetPC w (vxL L cs) 0) := by
  obtain ⟨tj0, hj, jz0, jz1, jz2⟩ := info_parts info_pt
  have HSP := Lib.hid hSP
  have HN := Lib.hid hN
  have HL := Lib.hid hl
  have H1 : Hid (1 ≤ n) := by show 1 ≤ n; omega
  have H2 := Lib.hid h2
  have HCS := Lib.hid hcs
  have HCN : Hid (cs.length = n) := by show cs.length = n; rw [hcs.1, hN]
  have H0 := Lib.hid h0
  obtain ⟨R, hR⟩ : ∃ R, vxL L cs = R := ⟨_, rfl⟩
  rw [hR]
  have HR := Lib.hid hR
  obtain ⟨m, hm⟩ : ∃ m, (ptsL cs).length = m := ⟨_, rfl⟩
  have HM := Lib.hid hm
  have HMP : Hid (1 ≤ m) := by show 1 ≤ m; rw [← hm]; exact ptsL_ne (by rw [HCN.out]; exact h2)
  have HMN : Hid (m ≤ n) := by show m ≤ n; rw [← hm, ← HCN.out]; exact ptsL_len cs
  clear hSP hN hl h2 hcs hR hm h0
  have hs20 : w.heap.size < w.heap.size + 1 + 1 := (by omega); have hs30 : w.heap.size < w.heap.size + 1 + 1 + 1 := (by omega); have hs31 : w.heap.size + 1 < w.heap.size + 1 + 1 + 1 := (by omega)
  go_enter Try.func23, Try.ntmps23
  go_wp2_with (first | (go_at_call 18; refine (HSP.out _).mono ?_; rintro e wA hr; obtain ⟨g, cp, rfl, hge, hpt, hcp, hcq, hb⟩ := retpc_cap hr HN.out H1.out; clear hr; have HPT := Lib.hid hpt; have HCP := Lib.hid hcp; have HCQ := Lib.hid hcq; clear hpt hcp hcq; first | (have h2 := after_call2 hb hcl hfr hlt (by ((repeat' (first | (with_reducible exact Below.refl _ _) | (with_reducible refine Below.alloc ?_ ?_ _) | (with_reducible refine Below.setCell ?_ ?_ _) | (with_reducible refine Below.drew ?_) | (with_reducible refine below_drewN ?_ _) | (with_reducible assumption) | (with_reducible refine below_after (by with_reducible assumption) ?_) | go_size)); done)); obtain ⟨hclx, hfrx, hltx, hsz⟩ := after_call hb; (try simp only [World.size_alloc, World.size_setCell, World.size_drew] at hclx hfrx hltx hsz); (try (have hszl := Nat.lt_of_succ_le hsz)); obtain ⟨hcl, hfr, hlt⟩ := h2) | (obtain ⟨hcl, hfr, hlt, hsz⟩ := after_call hb; (try simp only [World.size_alloc, World.size_setCell, World.size_drew] at hcl hfr hlt hsz))) | (go_at_call 49; refine (partsOf_some L cs g cp n _ HN.out H2.out HL.out HCP.out HCQ.out (PtsAt.below HPT.out (by (repeat' (first | (with_reducible exact Below.refl _ _) | (with_reducible refine Below.alloc ?_ ?_ _) | (with_reducible refine Below.setCell ?_ ?_ _) | (with_reducible refine Below.drew ?_) | (with_reducible refine below_drewN ?_ _) | (with_reducible assumption) | (with_reducible refine below_after (by with_reducible assumption) ?_) | go_size)))) HCS.out).mono ?_; rintro e wB ⟨v, rfl, ho, hbB⟩; obtain ⟨pa, pc, rfl, hv⟩ := own_viewS ho; rw [HM.out]; obtain ⟨q, rfl, hqb, hpr⟩ := hv (by rw [HM.out]; exact HMP.out)))
  have HBA : Hid (Below w.heap.size w wA) := by show Below w.heap.size w wA; (repeat' (first | (with_reducible exact Below.refl _ _) | (with_reducible refine Below.alloc ?_ ?_ _) | (with_reducible refine Below.setCell ?_ ?_ _) | (with_reducible refine Below.drew ?_) | (with_reducible refine below_drewN ?_ _) | (with_reducible assumption) | (with_reducible refine below_after (by with_reducible assumption) ?_) | go_size))
  have hzA : w.heap.size ≤ wA.heap.size := HBA.out.size
  have HBB : Hid (Below wA.heap.size wA wB) := by show Below wA.heap.size wA wB; (repeat' (first | (with_reducible exact Below.refl _ _) | (with_reducible refine Below.alloc ?_ ?_ _) | (with_reducible refine Below.setCell ?_ ?_ _) | (with_reducible refine Below.drew ?_) | (with_reducible refine below_drewN ?_ _) | (with_reducible assumption) | (with_reducible refine below_after (by with_reducible assumption) ?_) | go_size))
  have HBW : Hid (Below w.heap.size w wB) := below_after HBB.out HBA.out
  have HPB := Lib.hid (PtsAt.below HPT.out HBB.out)
  have HPR := Lib.hid hpr
  have hgA : g < wA.heap.size := HPT.out.1
  have hqA : wA.heap.size < q := by simp only [World.size_alloc] at hqb; omega
  have OV : Hid (OwnF w.heap.size wB (.slice (some ⟨wA.heap.size, 0, none⟩) 1 1) 1 [a, b]) := own_up (own_below (own_1F wA a b) hbB) hzA
  clear hpr ho hbB hv
  (repeat (first | clear hb | clear hcl | clear hfr | clear hlt | clear hclx | clear hfrx | clear hltx))
  go_loopw [8, 25] (fun v i wr => ∃ (j : Nat) (vb : Option Addr) (vcp : Nat), j ≤ m ∧ v = .slice vb (j + 1) vcp ∧ i = .int .i64 (j : Int) ∧ OwnF w.heap.size wr (.slice vb (j + 1) vcp) (j + 1) (flat (vxP L ((ptsL cs).take j))) ∧ (Value.slice vb (j + 1) vcp).ownBlock ≠ some g ∧ (Value.slice vb (j + 1) vcp).ownBlock ≠ some q ∧ Kp wB wr g ∧ Kp wB wr q ∧ Below w.heap.size w wr) (fun _ i _ => m - (intOf i).toNat)
  case atStart =>
    have e0 : flat (vxP L ((ptsL cs).take 0)) = [a, b] := by rw [List.take_zero]; unfold vxP; rw [H0.out]; rfl
    exact ⟨0, _, 1, by omega, rfl, rfl, by rw [e0]; exact OV.out, by show some wA.heap.size ≠ some g; simp; omega, by show some wA.heap.size ≠ some q; simp; omega, Kp.refl HPB.out.1, Kp.refl HPR.out.1, HBW.out⟩
  case round =>
    obtain ⟨j, vb, vcp, hjm, rfl, rfl, hO, hvg, hvq, hkg, hkq, hbel⟩ := hrel
    have HO := Lib.hid hO
    have HVG := Lib.hid hvg
    have HVQ := Lib.hid hvq
    have HKG := Lib.hid hkg
    have HKQ := Lib.hid hkq
    have HBL := Lib.hid hbel
    have HJM := Lib.hid hjm
    by_cases hlt : j < m
    · obtain ⟨⟨s, e⟩, hp⟩ : ∃ p, (ptsL cs).getD j (0, 0) = p := ⟨_, rfl⟩
      have hok : PartOk cs (s, e) := ptsL_ok cs _ (by rw [← hp, show (ptsL cs).getD j (0, 0) = (ptsL cs)[j]'(by rw [HM.out]; exact hlt) by simp [List.getD, HM.out, hlt]]; exact List.getElem_mem _)
      obtain ⟨hse, hen, _⟩ := hok
      rw [HCN.out] at hen
      dsimp only at hse hen
      have HP := Lib.hid hp
      obtain ⟨l, hl⟩ : ∃ l, l = e + 1 - s := ⟨_, rfl⟩
      obtain ⟨l1, hl1⟩ : ∃ l1, l1 = e - s := ⟨_, rfl⟩
      obtain ⟨⟨u, v⟩, hu⟩ : ∃ u, L.getD e (0, 0) = u := ⟨_, rfl⟩
      have HU := Lib.hid hu
      have c0 : wr.cell? ⟨q, j, none⟩ = some (.slice (some ⟨g, s * 2, none⟩) l l) := by
        have := (PrtAt.kp HPR.out hkq).2 j (by rw [HM.out]; exact hlt)
        rw [hp] at this
        rw [this, hl]; rfl
      obtain ⟨c1, c2⟩ := (PtsAt.kp HPB.out hkg).2 e (by rw [HN.out]; exact hen)
      rw [hu, show e * 2 = s * 2 + l1 * 2 by omega] at c1
      rw [hu, show e * 2 + 1 = s * 2 + l1 * 2 + 1 by omega] at c2
      dsimp only at c1 c2
      have i0 : (0 : Int) ≤ (j : Int) := by omega
      have i1 : (j : Int) < (m : Int) := by omega
      have i2 : (l : Int) - 1 = (l1 : Int) := by omega
      have i3 : IntKind.i64.wrap (l1 : Int) = (l1 : Int) := by rw [IntKind.wrap_i64]; have := HL.out; omega
      have i4 : (0 : Int) ≤ (l1 : Int) := by omega
      have i5 : (l1 : Int) < (l : Int) := by omega
      have i6 : (l : Int) ≤ 2001 := by have := HL.out; omega
      have i7 : (m : Int) ≤ 2000 := by have := HL.out; have := HMN.out; omega
      have HLT := Lib.hid hlt
      clear hO hvg hvq hkg hkq hbel hjm hl hl1 hu hp
      go_wp2_with (first | (at_builtin; refine wpList_append_own_at _ rfl _ _ 27 rfl w.heap.size 24 tj0 (.agg #[.int .i64 0, .int .i64 0]) 2 16 Try.underlying27 hj jz0 jz1 jz2 rfl (by decide) _ _ _ rfl (own_below HO.out ?hb) ⟨_, 0, none⟩ 1 1 [.int .i64 u, .int .i64 v] rfl rfl ?c1 ?c2 ?c3 ?c4 ?c5 ?_))
      case hb => (repeat' (first | (with_reducible exact Below.refl _ _) | (with_reducible refine Below.alloc ?_ ?_ _) | (with_reducible refine Below.setCell ?_ ?_ _) | (with_reducible refine Below.drew ?_) | (with_reducible refine below_drewN ?_ _) | (with_reducible assumption) | (with_reducible refine below_after (by with_reducible assumption) ?_) | go_size))
      try (case c1 =>
             intro j u hj
             match j, hj with
             | 0, hj => simp at hj; subst hj; simp [Addr.add]
             | 1, hj => simp at hj; subst hj; simp [Addr.add])
      case c2 => first | exact ⟨rfl, rfl⟩ | (intro u hu; simp at hu; rcases hu with rfl | rfl <;> rfl)
      case c3 => have := HJM.out; have := HMN.out; have := HL.out; unfold maxLen; omega
      case c4 => have := HJM.out; have := HMN.out; have := HL.out; omega
      case c5 => first | (have h1 := HBL.out.size; (try simp only [World.size_alloc]); omega) | exact Below.size (below_after (w := wr) (by (repeat' (first | (with_reducible exact Below.refl _ _) | (with_reducible refine Below.alloc ?_ ?_ _) | (with_reducible refine Below.setCell ?_ ?_ _) | (with_reducible refine Below.drew ?_) | (with_reducible refine below_drewN ?_ _) | (with_reducible assumption) | (with_reducible refine below_after (by with_reducible assumption) ?_) | go_size))) HBL.out)
      intro v' w1 hown' hgrow hnil hat
      have hb1 : Below w.heap.size w w1 := Below.grown (below_after (w := wr) (by (repeat' (first | (with_reducible exact Below.refl _ _) | (with_reducible refine Below.alloc ?_ ?_ _) | (with_reducible refine Below.setCell ?_ ?_ _) | (with_reducible refine Below.drew ?_) | (with_reducible refine below_drewN ?_ _) | (with_reducible assumption) | (with_reducible refine below_after (by with_reducible assumption) ?_) | go_size))) HBL.out) hgrow (Below.size (below_after (w := wr) (by (repeat' (first | (with_reducible exact Below.refl _ _) | (with_reducible refine Below.alloc ?_ ?_ _) | (with_reducible refine Below.setCell ?_ ?_ _) | (with_reducible refine Below.drew ?_) | (with_reducible refine below_drewN ?_ _) | (with_reducible assumption) | (with_reducible refine below_after (by with_reducible assumption) ?_) | go_size))) HBL.out)) (fun k hk => (World.ownsRow.lt HO.out k hk).1)
      have hkg : Kp wr w1 g := kp_app HKG.out.1 hgrow HVG.out
      have hkq : Kp wr w1 q := kp_app HKQ.out.1 hgrow HVQ.out
      have hvg : v'.ownBlock ≠ some g := far_app hat HVG.out HKG.out.1
      have hvq : v'.ownBlock ≠ some q := far_app hat HVQ.out HKQ.out.1
      have HO1 := Lib.hid hown'
      have HB1 := Lib.hid hb1
      have HKG1 := Lib.hid (HKG.out.trans hkg)
      have HKQ1 := Lib.hid (HKQ.out.trans hkq)
      have HVG1 := Lib.hid hvg
      have HVQ1 := Lib.hid hvq
      clear hown' hgrow hnil hat hb1 hkg hkq hvg hvq
      obtain ⟨g8, cp8, rfl⟩ := ownsRow_succ HO1.out
      go_wp2
      go_roundw
      case rel =>
        refine ⟨j + 1, _, cp8, by have := HLT.out; omega, rfl, by go_num, ?_, HVG1.out, HVQ1.out, HKG1.out, HKQ1.out, HB1.out⟩
        rw [take_snocP _ j (by rw [HM.out]; exact HLT.out), HP.out, vxP_snoc, show vxF L (s, e) = (u, v) from HU.out]
        show World.ownsRow _ _ _ _ _ _ _
        rw [List.map_append]
        exact HO1.out
      case measure => have := HLT.out; simp [intOf]; omega
    · have hjm2 : j = m := by omega
      subst hjm2
      have hfin : vxP L ((ptsL cs).take j) = R := by
        rw [← HM.out, List.take_length, ← HR.out]; rfl
      have HF := Lib.hid hfin
      clear hO hvg hvq hkg hkq hbel hjm hlt hfin
      go_wp2
      go_ret2
      refine ⟨_, rfl, ?_, HBL.out⟩
      have := HO.out
      rw [HF.out] at this
      rw [show R.length = j + 1 by rw [← HF.out, vxP_len, List.length_take, HM.out]; omega]
      exact this
theorem impl_SailVertices_any (a b c d : Int) (w : World) : Calls Try.prog 23 #[.agg #[.int .i64 a, .int .i64 b], .agg #[.int .i64 c, .int .i64 d]] w (RetPC w (vxS (a, b) (c, d)) (slC (a, b) (c, d))) := by
  rcases sl_cases (a, b) (c, d) with ⟨hc, _, _, _, h2, h3⟩ | ⟨hc, hn, _⟩
  · have hSP : ∀ w, Calls Try.prog 18 #[.agg #[.int .i64 a, .int .i64 b], .agg #[.int .i64 c, .int .i64 d]] w (RetPC w (slL (a, b) (c, d)) 0) := by
      intro w; have := impl_SailPoints_any a b c d w; rw [hc] at this; exact this
    have h0 := sl_head hc
    unfold vxS
    rw [if_pos hc, hc]
    exact impl_SailVertices_some a b c d _ _ _ w h0 rfl h2 h3 (cnL_of _ _) hSP
  · have hSP : ∀ w, Calls Try.prog 18 #[.agg #[.int .i64 a, .int .i64 b], .agg #[.int .i64 c, .int .i64 d]] w (RetPC w [] (slC (a, b) (c, d))) := by
      intro w; have := impl_SailPoints_any a b c d w; rw [hn] at this; exact this
    unfold vxS
    rw [if_neg hc]
    generalize slC (a, b) (c, d) = C at *
    have HSP := Lib.hid hSP
    have hc2 : (C == 0) = false := by simpa using hc
    have hc3 : ¬ C = 0 := hc
    have hc4 : (C != 0) = true := by simpa using hc
    clear hSP hn
    have hs20 : w.heap.size < w.heap.size + 1 + 1 := (by omega); have hs30 : w.heap.size < w.heap.size + 1 + 1 + 1 := (by omega); have hs31 : w.heap.size + 1 < w.heap.size + 1 + 1 + 1 := (by omega)
    go_enter Try.func23, Try.ntmps23
    go_wp2_with (first | (go_at_call 18; refine (HSP.out _).mono ?_; rintro e wn hr; obtain ⟨va, vc, rfl, hb⟩ := retpc_none hr rfl; clear hr; first | (have h2 := after_call2 hb hcl hfr hlt (by ((repeat' (first | (with_reducible exact Below.refl _ _) | (with_reducible refine Below.alloc ?_ ?_ _) | (with_reducible refine Below.setCell ?_ ?_ _) | (with_reducible refine Below.drew ?_) | (with_reducible refine below_drewN ?_ _) | (with_reducible assumption) | (with_reducible refine below_after (by with_reducible assumption) ?_) | go_size)); done)); obtain ⟨hclx, hfrx, hltx, hsz⟩ := after_call hb; (try simp only [World.size_alloc, World.size_setCell, World.size_drew] at hclx hfrx hltx hsz); (try (have hszl := Nat.lt_of_succ_le hsz)); obtain ⟨hcl, hfr, hlt⟩ := h2) | (obtain ⟨hcl, hfr, hlt, hsz⟩ := after_call hb; (try simp only [World.size_alloc, World.size_setCell, World.size_drew] at hcl hfr hlt hsz))))
    go_ret2
    exact ⟨_, rfl, World.ownsRow_nil _ _ _ _, by (repeat' (first | (with_reducible exact Below.refl _ _) | (with_reducible refine Below.alloc ?_ ?_ _) | (with_reducible refine Below.setCell ?_ ?_ _) | (with_reducible refine Below.drew ?_) | (with_reducible refine below_drewN ?_ _) | (with_reducible assumption) | (with_reducible refine below_after (by with_reducible assumption) ?_) | go_size))⟩
/-- The state of the model's loop. -/
def VS (L : List (Int × Int)) (cs : List Int) (k : Nat) (zs : List (Int × Int)) : Prop := (k = 0 ∧ zs = []) ∨ ∃ s pre, PS cs k s pre ∧ zs = vxP L pre
set_option maxHeartbeats 16000000 in
theorem spec_SailVertices_some (a b c d : Int) (L : List (Int × Int)) (cs : List Int) (n : Nat) (w : World) (hN : L.length = n) (h2 : 2 ≤ n) (hl : n ≤ 2000) (hcs : CsOf L cs)
    (hSP : ∀ w, Calls Try.prog 46 #[.agg #[.int .i64 a, .int .i64 b], .agg #[.int .i64 c, .int .i64 d]] w (RetPNC w L cs 0)) :
    Calls Try.prog 22 #[.agg #[.int .i64 a, .int .i64 b], .agg #[.int .i64 c, .int .i64 d]] w (RetPC w (vxL L cs) 0) := by
  obtain ⟨tj0, hj, jz0, jz1, jz2⟩ := info_parts info_pt
  have HSP := Lib.hid hSP
  have HN := Lib.hid hN
  have HL := Lib.hid hl
  have H1 : Hid (1 ≤ n) := by show 1 ≤ n; omega
  have H2 := Lib.hid h2
  have HCS := Lib.hid hcs
  have HCN : Hid (cs.length = n) := by show cs.length = n; rw [hcs.1, hN]
  obtain ⟨R, hR⟩ : ∃ R, vxL L cs = R := ⟨_, rfl⟩
  rw [hR]
  have HR := Lib.hid hR
  clear hSP hN hl h2 hcs hR
  have hs20 : w.heap.size < w.heap.size + 1 + 1 := (by omega); have hs30 : w.heap.size < w.heap.size + 1 + 1 + 1 := (by omega); have hs31 : w.heap.size + 1 < w.heap.size + 1 + 1 + 1 := (by omega)
  go_enter Try.func22, Try.ntmps22
  go_wp2_with (first | (go_at_call 46; refine (HSP.out _).mono ?_; rintro e wA hr; obtain ⟨g, cp, q, nc, rfl, hge, hpt, hqw, hnum, hb⟩ := retpnc_num hr HN.out HCN.out H1.out; clear hr; have HPT := Lib.hid hpt; have HNUM := Lib.hid hnum; clear hpt hnum; first | (have h2 := after_call2 hb hcl hfr hlt (by ((repeat' (first | (with_reducible exact Below.refl _ _) | (with_reducible refine Below.alloc ?_ ?_ _) | (with_reducible refine Below.setCell ?_ ?_ _) | (with_reducible refine Below.drew ?_) | (with_reducible refine below_drewN ?_ _) | (with_reducible assumption) | (with_reducible refine below_after (by with_reducible assumption) ?_) | go_size)); done)); obtain ⟨hclx, hfrx, hltx, hsz⟩ := after_call hb; (try simp only [World.size_alloc, World.size_setCell, World.size_drew] at hclx hfrx hltx hsz); (try (have hszl := Nat.lt_of_succ_le hsz)); obtain ⟨hcl, hfr, hlt⟩ := h2) | (obtain ⟨hcl, hfr, hlt, hsz⟩ := after_call hb; (try simp only [World.size_alloc, World.size_setCell, World.size_drew] at hcl hfr hlt hsz))))
  have HBA : Hid (Below w.heap.size w wA) := by show Below w.heap.size w wA; (repeat' (first | (with_reducible exact Below.refl _ _) | (with_reducible refine Below.alloc ?_ ?_ _) | (with_reducible refine Below.setCell ?_ ?_ _) | (with_reducible refine Below.drew ?_) | (with_reducible refine below_drewN ?_ _) | (with_reducible assumption) | (with_reducible refine below_after (by with_reducible assumption) ?_) | go_size))
  have hzA : w.heap.size ≤ wA.heap.size := HBA.out.size
  obtain ⟨wB, hwB⟩ : ∃ wB, wA.alloc (.cells #[] 24) = wB := ⟨_, rfl⟩
  have OV : Hid (OwnF w.heap.size wB (.slice (some ⟨wA.heap.size, 0, none⟩) 0 0) 0 []) := by
    rw [← hwB]
    exact own_up (World.ownsRow_made wA #[] 0 (Nat.le_refl _) (Nat.zero_le _) rfl) hzA
  have HBB : Hid (Below wA.heap.size wA wB) := by
    show Below wA.heap.size wA wB
    rw [← hwB]; (repeat' (first | (with_reducible exact Below.refl _ _) | (with_reducible refine Below.alloc ?_ ?_ _) | (with_reducible refine Below.setCell ?_ ?_ _) | (with_reducible refine Below.drew ?_) | (with_reducible refine below_drewN ?_ _) | (with_reducible assumption) | (with_reducible refine below_after (by with_reducible assumption) ?_) | go_size))
  have HBW : Hid (Below w.heap.size w wB) := below_after HBB.out HBA.out
  have HPB := Lib.hid (PtsAt.below HPT.out HBB.out)
  have HNB := Lib.hid (NumAt.kp HNUM.out (Kp.below HNUM.out.1 HBB.out))
  have hgA : g < wA.heap.size := HPT.out.1
  have hqA : q < wA.heap.size := HNUM.out.1
  rw [hwB]
  clear hwB
  (repeat (first | clear hb | clear hcl | clear hfr | clear hlt | clear hclx | clear hfrx | clear hltx))
  go_loopw [9, 10] (fun v i wr => ∃ (k : Nat) (zs : List (Int × Int)) (vb : Option Addr) (vcp : Nat), k ≤ n ∧ zs.length ≤ k ∧ v = .slice vb zs.length vcp ∧ i = .int .i64 (k : Int) ∧ VS L cs k zs ∧ OwnF w.heap.size wr (.slice vb zs.length vcp) zs.length (flat zs) ∧ (Value.slice vb zs.length vcp).ownBlock ≠ some g ∧ (Value.slice vb zs.length vcp).ownBlock ≠ some q ∧ Kp wB wr g ∧ Kp wB wr q ∧ Below w.heap.size w wr) (fun _ i _ => n - (intOf i).toNat)
  case atStart => exact ⟨0, [], _, 0, by omega, by simp, rfl, rfl, .inl ⟨rfl, rfl⟩, OV.out, by show some wA.heap.size ≠ some g; simp; omega, by show some wA.heap.size ≠ some q; simp; omega, Kp.refl HPB.out.1, Kp.refl HNB.out.1, HBW.out⟩
  case round =>
    obtain ⟨k, zs, vb, vcp, hkn, hzl, rfl, rfl, hvs, hO, hvg, hvq, hkg, hkq, hbel⟩ := hrel
    have HO := Lib.hid hO
    have HVG := Lib.hid hvg
    have HVQ := Lib.hid hvq
    have HKG := Lib.hid hkg
    have HKQ := Lib.hid hkq
    have HBL := Lib.hid hbel
    have HKN := Lib.hid hkn
    have HZL := Lib.hid hzl
    have HVS := Lib.hid hvs
    by_cases hlt : k < n
    · obtain ⟨⟨u, v⟩, hu⟩ : ∃ u, L.getD k (0, 0) = u := ⟨_, rfl⟩
      obtain ⟨C, hC⟩ : ∃ C, cs.getD k 0 = C := ⟨_, rfl⟩
      have HU := Lib.hid hu
      have HC := Lib.hid hC
      obtain ⟨c1, c2⟩ := (PtsAt.kp HPB.out hkg).2 k (by rw [HN.out]; exact hlt)
      have c0 := (NumAt.kp HNB.out hkq).2 k (by rw [HCN.out]; exact hlt)
      rw [hu] at c1 c2
      rw [hC] at c0
      dsimp only at c1 c2
      have i0 : (0 : Int) ≤ (k : Int) := by omega
      have i1 : (k : Int) < (n : Int) := by omega
      have i2 : (n : Int) ≤ 2000 := by have := HL.out; omega
      have i3 : IntKind.i64.wrap ((n : Int) - 1) = (n : Int) - 1 := by rw [IntKind.wrap_i64]; have := HL.out; omega
      have HLT := Lib.hid hlt
      clear hu hC hzl hvs
      by_cases hk0 : k = 0
      · have e1 : ((k : Int) == 0) = true := by rw [hk0]; rfl
        have e2 : (k : Int) = 0 := by omega
        have hz0 : zs = [] := by
          rcases HVS.out with ⟨_, h⟩ | ⟨s, pre, hp, _⟩
          · exact h
          · have := hp.1; omega
        have HST : Hid (VS L cs (k + 1) (zs ++ [(u, v)])) := by
          refine .inr ⟨0, [], by rw [hk0]; exact PS.start cs, ?_⟩
          rw [hz0, ← HU.out, hk0]; rfl
        subst hk0
        subst hz0
        clear hO hvg hvq hkg hkq hbel hkn
        go_wp2_with (first | (at_builtin; refine wpList_append_own_at _ rfl _ _ 27 rfl w.heap.size 24 tj0 (.agg #[.int .i64 0, .int .i64 0]) 2 16 Try.underlying27 hj jz0 jz1 jz2 rfl (by decide) _ _ _ rfl (own_below HO.out ?hb) ⟨_, 0, none⟩ 1 1 [.int .i64 u, .int .i64 v] rfl rfl ?c1 ?c2 ?c3 ?c4 ?c5 ?_))
        case hb => (repeat' (first | (with_reducible exact Below.refl _ _) | (with_reducible refine Below.alloc ?_ ?_ _) | (with_reducible refine Below.setCell ?_ ?_ _) | (with_reducible refine Below.drew ?_) | (with_reducible refine below_drewN ?_ _) | (with_reducible assumption) | (with_reducible refine below_after (by with_reducible assumption) ?_) | go_size))
        try (case c1 =>
               intro j u hj
               match j, hj with
               | 0, hj => simp at hj; subst hj; simp [Addr.add]
               | 1, hj => simp at hj; subst hj; simp [Addr.add])
        case c2 => first | exact ⟨rfl, rfl⟩ | (intro u hu; simp at hu; rcases hu with rfl | rfl <;> rfl)
        case c3 => have := HZL.out; have := HKN.out; have := HL.out; unfold maxLen; omega
        case c4 => have := HZL.out; have := HKN.out; have := HL.out; omega
        case c5 => first | (have h1 := HBL.out.size; (try simp only [World.size_alloc]); omega) | exact Below.size (below_after (w := wr) (by (repeat' (first | (with_reducible exact Below.refl _ _) | (with_reducible refine Below.alloc ?_ ?_ _) | (with_reducible refine Below.setCell ?_ ?_ _) | (with_reducible refine Below.drew ?_) | (with_reducible refine below_drewN ?_ _) | (with_reducible assumption) | (with_reducible refine below_after (by with_reducible assumption) ?_) | go_size))) HBL.out)
        intro v' w1 hown' hgrow hnil hat
        have hb1 : Below w.heap.size w w1 := Below.grown (below_after (w := wr) (by (repeat' (first | (with_reducible exact Below.refl _ _) | (with_reducible refine Below.alloc ?_ ?_ _) | (with_reducible refine Below.setCell ?_ ?_ _) | (with_reducible refine Below.drew ?_) | (with_reducible refine below_drewN ?_ _) | (with_reducible assumption) | (with_reducible refine below_after (by with_reducible assumption) ?_) | go_size))) HBL.out) hgrow (Below.size (below_after (w := wr) (by (repeat' (first | (with_reducible exact Below.refl _ _) | (with_reducible refine Below.alloc ?_ ?_ _) | (with_reducible refine Below.setCell ?_ ?_ _) | (with_reducible refine Below.drew ?_) | (with_reducible refine below_drewN ?_ _) | (with_reducible assumption) | (with_reducible refine below_after (by with_reducible assumption) ?_) | go_size))) HBL.out)) (fun k hk => (World.ownsRow.lt HO.out k hk).1)
        have hkg : Kp wr w1 g := kp_app HKG.out.1 hgrow HVG.out
        have hkq : Kp wr w1 q := kp_app HKQ.out.1 hgrow HVQ.out
        have hvg : v'.ownBlock ≠ some g := far_app hat HVG.out HKG.out.1
        have hvq : v'.ownBlock ≠ some q := far_app hat HVQ.out HKQ.out.1
        have HO1 := Lib.hid hown'
        have HB1 := Lib.hid hb1
        have HKG1 := Lib.hid (HKG.out.trans hkg)
        have HKQ1 := Lib.hid (HKQ.out.trans hkq)
        have HVG1 := Lib.hid hvg
        have HVQ1 := Lib.hid hvq
        clear hown' hgrow hnil hat hb1 hkg hkq hvg hvq
        obtain ⟨g8, cp8, rfl⟩ := ownsRow_succ HO1.out
        go_wp2
        go_roundw
        case rel =>
          refine ⟨1, [] ++ [(u, v)], _, cp8, by have := HLT.out; omega, by first | (simp; done) | (simp; have := HZL.out; omega), by first | rfl | (simp; done) | (simp; rfl), by go_num, HST.out, ?_, by simpa using HVG1.out, by simpa using HVQ1.out, HKG1.out, HKQ1.out, HB1.out⟩
          show World.ownsRow _ _ _ _ _ _ _
          rw [List.length_append, flat_append, List.map_append]
          exact HO1.out
        case measure => have := HLT.out; simp [intOf]; omega
      · have e1 : ((k : Int) == 0) = false := by
          cases h : ((k : Int) == 0)
          · rfl
          · simp only [beq_iff_eq] at h; omega
        have e2 : ¬ (k : Int) = 0 := by omega
        obtain ⟨s, pre, hps, hzs⟩ : ∃ s pre, PS cs k s pre ∧ zs = vxP L pre := by
          rcases HVS.out with ⟨h, _⟩ | h
          · exact absurd h hk0
          · exact h
        by_cases hlast : k + 1 = n
        · have e3 : ((k : Int) == (n : Int) - 1) = true := by
            have : (k : Int) = (n : Int) - 1 := by omega
            rw [this]; simp
          have e4 : (k : Int) = (n : Int) - 1 := by omega
          have e5 : (n : Int) - 1 = (k : Int) := by omega
          have HST : Hid (VS L cs (k + 1) (zs ++ [(u, v)])) := by
            refine .inr ⟨k, pre ++ [(s, k)], hps.last (by rw [HCN.out]; exact hlast), ?_⟩
            rw [hzs, ← HU.out]; simp [vxP, vxF]
          clear e4 hzs
          clear hO hvg hvq hkg hkq hbel hkn
          go_wp2_with (first | (at_builtin; refine wpList_append_own_at _ rfl _ _ 27 rfl w.heap.size 24 tj0 (.agg #[.int .i64 0, .int .i64 0]) 2 16 Try.underlying27 hj jz0 jz1 jz2 rfl (by decide) _ _ _ rfl (own_below HO.out ?hb) ⟨_, 0, none⟩ 1 1 [.int .i64 u, .int .i64 v] rfl rfl ?c1 ?c2 ?c3 ?c4 ?c5 ?_))
          case hb => (repeat' (first | (with_reducible exact Below.refl _ _) | (with_reducible refine Below.alloc ?_ ?_ _) | (with_reducible refine Below.setCell ?_ ?_ _) | (with_reducible refine Below.drew ?_) | (with_reducible refine below_drewN ?_ _) | (with_reducible assumption) | (with_reducible refine below_after (by with_reducible assumption) ?_) | go_size))
          try (case c1 =>
                 intro j u hj
                 match j, hj with
                 | 0, hj => simp at hj; subst hj; simp [Addr.add]
                 | 1, hj => simp at hj; subst hj; simp [Addr.add])
          case c2 => first | exact ⟨rfl, rfl⟩ | (intro u hu; simp at hu; rcases hu with rfl | rfl <;> rfl)
          case c3 => have := HZL.out; have := HKN.out; have := HL.out; unfold maxLen; omega
          case c4 => have := HZL.out; have := HKN.out; have := HL.out; omega
          case c5 => first | (have h1 := HBL.out.size; (try simp only [World.size_alloc]); omega) | exact Below.size (below_after (w := wr) (by (repeat' (first | (with_reducible exact Below.refl _ _) | (with_reducible refine Below.alloc ?_ ?_ _) | (with_reducible refine Below.setCell ?_ ?_ _) | (with_reducible refine Below.drew ?_) | (with_reducible refine below_drewN ?_ _) | (with_reducible assumption) | (with_reducible refine below_after (by with_reducible assumption) ?_) | go_size))) HBL.out)
          intro v' w1 hown' hgrow hnil hat
          have hb1 : Below w.heap.size w w1 := Below.grown (below_after (w := wr) (by (repeat' (first | (with_reducible exact Below.refl _ _) | (with_reducible refine Below.alloc ?_ ?_ _) | (with_reducible refine Below.setCell ?_ ?_ _) | (with_reducible refine Below.drew ?_) | (with_reducible refine below_drewN ?_ _) | (with_reducible assumption) | (with_reducible refine below_after (by with_reducible assumption) ?_) | go_size))) HBL.out) hgrow (Below.size (below_after (w := wr) (by (repeat' (first | (with_reducible exact Below.refl _ _) | (with_reducible refine Below.alloc ?_ ?_ _) | (with_reducible refine Below.setCell ?_ ?_ _) | (with_reducible refine Below.drew ?_) | (with_reducible refine below_drewN ?_ _) | (with_reducible assumption) | (with_reducible refine below_after (by with_reducible assumption) ?_) | go_size))) HBL.out)) (fun k hk => (World.ownsRow.lt HO.out k hk).1)
          have hkg : Kp wr w1 g := kp_app HKG.out.1 hgrow HVG.out
          have hkq : Kp wr w1 q := kp_app HKQ.out.1 hgrow HVQ.out
          have hvg : v'.ownBlock ≠ some g := far_app hat HVG.out HKG.out.1
          have hvq : v'.ownBlock ≠ some q := far_app hat HVQ.out HKQ.out.1
          have HO1 := Lib.hid hown'
          have HB1 := Lib.hid hb1
          have HKG1 := Lib.hid (HKG.out.trans hkg)
          have HKQ1 := Lib.hid (HKQ.out.trans hkq)
          have HVG1 := Lib.hid hvg
          have HVQ1 := Lib.hid hvq
          clear hown' hgrow hnil hat hb1 hkg hkq hvg hvq
          obtain ⟨g8, cp8, rfl⟩ := ownsRow_succ HO1.out
          go_wp2
          go_roundw
          case rel =>
            refine ⟨k + 1, zs ++ [(u, v)], _, cp8, by have := HLT.out; omega, by first | (simp; done) | (simp; have := HZL.out; omega), by first | rfl | (simp; done) | (simp; rfl), by go_num, HST.out, ?_, by simpa using HVG1.out, by simpa using HVQ1.out, HKG1.out, HKQ1.out, HB1.out⟩
            show World.ownsRow _ _ _ _ _ _ _
            rw [List.length_append, flat_append, List.map_append]
            exact HO1.out
          case measure => have := HLT.out; simp [intOf]; omega
        · have e3 : ((k : Int) == (n : Int) - 1) = false := by
            cases h : ((k : Int) == (n : Int) - 1)
            · rfl
            · simp only [beq_iff_eq] at h; omega
          have e4 : ¬ (k : Int) = (n : Int) - 1 := by omega
          by_cases hc : 2 < C
          · have HST : Hid (VS L cs (k + 1) (zs ++ [(u, v)])) := by
              refine .inr ⟨k, pre ++ [(s, k)], hps.cut (by rw [HCN.out]; omega) (by rw [HC.out]; exact hc), ?_⟩
              rw [hzs, ← HU.out]; simp [vxP, vxF]
            clear hzs
            clear hO hvg hvq hkg hkq hbel hkn
            go_wp2_with (first | (at_builtin; refine wpList_append_own_at _ rfl _ _ 27 rfl w.heap.size 24 tj0 (.agg #[.int .i64 0, .int .i64 0]) 2 16 Try.underlying27 hj jz0 jz1 jz2 rfl (by decide) _ _ _ rfl (own_below HO.out ?hb) ⟨_, 0, none⟩ 1 1 [.int .i64 u, .int .i64 v] rfl rfl ?c1 ?c2 ?c3 ?c4 ?c5 ?_))
            case hb => (repeat' (first | (with_reducible exact Below.refl _ _) | (with_reducible refine Below.alloc ?_ ?_ _) | (with_reducible refine Below.setCell ?_ ?_ _) | (with_reducible refine Below.drew ?_) | (with_reducible refine below_drewN ?_ _) | (with_reducible assumption) | (with_reducible refine below_after (by with_reducible assumption) ?_) | go_size))
            try (case c1 =>
                   intro j u hj
                   match j, hj with
                   | 0, hj => simp at hj; subst hj; simp [Addr.add]
                   | 1, hj => simp at hj; subst hj; simp [Addr.add])
            case c2 => first | exact ⟨rfl, rfl⟩ | (intro u hu; simp at hu; rcases hu with rfl | rfl <;> rfl)
            case c3 => have := HZL.out; have := HKN.out; have := HL.out; unfold maxLen; omega
            case c4 => have := HZL.out; have := HKN.out; have := HL.out; omega
            case c5 => first | (have h1 := HBL.out.size; (try simp only [World.size_alloc]); omega) | exact Below.size (below_after (w := wr) (by (repeat' (first | (with_reducible exact Below.refl _ _) | (with_reducible refine Below.alloc ?_ ?_ _) | (with_reducible refine Below.setCell ?_ ?_ _) | (with_reducible refine Below.drew ?_) | (with_reducible refine below_drewN ?_ _) | (with_reducible assumption) | (with_reducible refine below_after (by with_reducible assumption) ?_) | go_size))) HBL.out)
            intro v' w1 hown' hgrow hnil hat
            have hb1 : Below w.heap.size w w1 := Below.grown (below_after (w := wr) (by (repeat' (first | (with_reducible exact Below.refl _ _) | (with_reducible refine Below.alloc ?_ ?_ _) | (with_reducible refine Below.setCell ?_ ?_ _) | (with_reducible refine Below.drew ?_) | (with_reducible refine below_drewN ?_ _) | (with_reducible assumption) | (with_reducible refine below_after (by with_reducible assumption) ?_) | go_size))) HBL.out) hgrow (Below.size (below_after (w := wr) (by (repeat' (first | (with_reducible exact Below.refl _ _) | (with_reducible refine Below.alloc ?_ ?_ _) | (with_reducible refine Below.setCell ?_ ?_ _) | (with_reducible refine Below.drew ?_) | (with_reducible refine below_drewN ?_ _) | (with_reducible assumption) | (with_reducible refine below_after (by with_reducible assumption) ?_) | go_size))) HBL.out)) (fun k hk => (World.ownsRow.lt HO.out k hk).1)
            have hkg : Kp wr w1 g := kp_app HKG.out.1 hgrow HVG.out
            have hkq : Kp wr w1 q := kp_app HKQ.out.1 hgrow HVQ.out
            have hvg : v'.ownBlock ≠ some g := far_app hat HVG.out HKG.out.1
            have hvq : v'.ownBlock ≠ some q := far_app hat HVQ.out HKQ.out.1
            have HO1 := Lib.hid hown'
            have HB1 := Lib.hid hb1
            have HKG1 := Lib.hid (HKG.out.trans hkg)
            have HKQ1 := Lib.hid (HKQ.out.trans hkq)
            have HVG1 := Lib.hid hvg
            have HVQ1 := Lib.hid hvq
            clear hown' hgrow hnil hat hb1 hkg hkq hvg hvq
            obtain ⟨g8, cp8, rfl⟩ := ownsRow_succ HO1.out
            go_wp2
            go_roundw
            case rel =>
              refine ⟨k + 1, zs ++ [(u, v)], _, cp8, by have := HLT.out; omega, by first | (simp; done) | (simp; have := HZL.out; omega), by first | rfl | (simp; done) | (simp; rfl), by go_num, HST.out, ?_, by simpa using HVG1.out, by simpa using HVQ1.out, HKG1.out, HKQ1.out, HB1.out⟩
              show World.ownsRow _ _ _ _ _ _ _
              rw [List.length_append, flat_append, List.map_append]
              exact HO1.out
            case measure => have := HLT.out; simp [intOf]; omega
          · have HST : Hid (VS L cs (k + 1) zs) := .inr ⟨s, pre, hps.on (by rw [HCN.out]; omega) (by rw [HC.out]; exact hc), hzs⟩
            have e6 : C ≤ 2 := by omega
            clear hzs
            clear hO hvg hvq hkg hkq hbel hkn
            go_wp2
            go_roundw
            case rel => exact ⟨k + 1, zs, vb, vcp, by have := HLT.out; omega, by have := HZL.out; omega, rfl, by go_num, HST.out, HO.out, HVG.out, HVQ.out, HKG.out, HKQ.out, HBL.out⟩
            case measure => have := HLT.out; simp [intOf]; omega
    · have hkn2 : k = n := by omega
      have hfin : zs = R := by
        rcases HVS.out with ⟨h, _⟩ | ⟨s, pre, hp, h⟩
        · have := H2.out; omega
        · rw [hkn2, ← HCN.out] at hp
          rw [h, hp.done, ← HR.out]; rfl
      subst hfin
      have i1 : ¬ (k : Int) < (n : Int) := by omega
      clear hO hvg hvq hkg hkq hbel hkn hzl hvs hlt
      go_wp2
      go_ret2
      exact ⟨_, rfl, HO.out, HBL.out⟩
theorem spec_SailVertices_any (a b c d : Int) (w : World) : Calls Try.prog 22 #[.agg #[.int .i64 a, .int .i64 b], .agg #[.int .i64 c, .int .i64 d]] w (RetPC w (vxS (a, b) (c, d)) (slC (a, b) (c, d))) := by
  rcases sl_cases (a, b) (c, d) with ⟨hc, _, _, _, h2, h3⟩ | ⟨hc, hn, _⟩
  · have hSP : ∀ w, Calls Try.prog 46 #[.agg #[.int .i64 a, .int .i64 b], .agg #[.int .i64 c, .int .i64 d]] w (RetPNC w (slL (a, b) (c, d)) (cnL (a, b) (c, d)) 0) := by
      intro w; have := l03Code_any a b c d w; rw [hc] at this; exact this
    unfold vxS
    rw [if_pos hc, hc]
    exact spec_SailVertices_some a b c d _ _ _ w rfl h2 h3 (cnL_of _ _) hSP
  · have hSP : ∀ w, Calls Try.prog 46 #[.agg #[.int .i64 a, .int .i64 b], .agg #[.int .i64 c, .int .i64 d]] w (RetPNC w (slL (a, b) (c, d)) (cnL (a, b) (c, d)) (slC (a, b) (c, d))) := fun w => l03Code_any a b c d w
    unfold vxS
    rw [if_neg hc]
    generalize slC (a, b) (c, d) = C at *
    have HSP := Lib.hid hSP
    have hc2 : (C == 0) = false := by simpa using hc
    have hc3 : ¬ C = 0 := hc
    have hc4 : (C != 0) = true := by simpa using hc
    clear hSP hn
    have hs20 : w.heap.size < w.heap.size + 1 + 1 := (by omega); have hs30 : w.heap.size < w.heap.size + 1 + 1 + 1 := (by omega); have hs31 : w.heap.size + 1 < w.heap.size + 1 + 1 + 1 := (by omega)
    go_enter Try.func22, Try.ntmps22
    go_wp2_with (first | (go_at_call 46; refine (HSP.out _).mono ?_; rintro e wn hr; obtain ⟨va, vn, vc, na, nm, nc, rfl, hb⟩ := retpnc_none hr; clear hr; first | (have h2 := after_call2 hb hcl hfr hlt (by ((repeat' (first | (with_reducible exact Below.refl _ _) | (with_reducible refine Below.alloc ?_ ?_ _) | (with_reducible refine Below.setCell ?_ ?_ _) | (with_reducible refine Below.drew ?_) | (with_reducible refine below_drewN ?_ _) | (with_reducible assumption) | (with_reducible refine below_after (by with_reducible assumption) ?_) | go_size)); done)); obtain ⟨hclx, hfrx, hltx, hsz⟩ := after_call hb; (try simp only [World.size_alloc, World.size_setCell, World.size_drew] at hclx hfrx hltx hsz); (try (have hszl := Nat.lt_of_succ_le hsz)); obtain ⟨hcl, hfr, hlt⟩ := h2) | (obtain ⟨hcl, hfr, hlt, hsz⟩ := after_call hb; (try simp only [World.size_alloc, World.size_setCell, World.size_drew] at hcl hfr hlt hsz))))
    go_ret2
    exact ⟨_, rfl, World.ownsRow_nil _ _ _ _, by (repeat' (first | (with_reducible exact Below.refl _ _) | (with_reducible refine Below.alloc ?_ ?_ _) | (with_reducible refine Below.setCell ?_ ?_ _) | (with_reducible refine Below.drew ?_) | (with_reducible refine below_drewN ?_ _) | (with_reducible assumption) | (with_reducible refine below_after (by with_reducible assumption) ?_) | go_size))⟩
end Go.Proofs.Ytjiaokcbhpmodaa
