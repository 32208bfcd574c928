/-
  Contracts of chapter 3's SequenceOf in the program, and of SailLengths and SailSines from it (own work; written by tools/mksqi.py).
-/
import Derived.Test.YtjiaokcbhpmodaaSqn
namespace Go.Proofs.Ytjiaokcbhpmodaa
open Go.ChangeShapes Go.WideShapes Go.ChangeAt Go.RowKit
set_option linter.unusedVariables false
set_option linter.unusedSimpArgs false

set_option maxHeartbeats 16000000 in
theorem impl_SequenceOf_some (a b c d : Int) (L : List (Int × Int)) (cs : List Int) (n : Nat) (w : World) (hN : L.length = n) (h2 : 2 ≤ n) (hl : n ≤ 2000) (hnb : Nbr L) (hcs : CsOf L cs)
    (hSP : ∀ w, Calls Try.prog 18 #[.agg #[.int .i64 a, .int .i64 b], .agg #[.int .i64 c, .int .i64 d]] w (RetPC w L 0)) :
    Calls Try.prog 32 #[.agg #[.int .i64 a, .int .i64 b], .agg #[.int .i64 c, .int .i64 d]] w (RetIC w (sqS cs) 0) := by
  have HSP := Lib.hid hSP
  have HN := Lib.hid hN
  have HL := Lib.hid hl
  have H1 : Hid (1 ≤ n) := by show 1 ≤ n; omega
  have H2 := Lib.hid h2
  have HCS := Lib.hid hcs
  have HNB := Lib.hid hnb
  have HCN : Hid (cs.length = n) := by show cs.length = n; rw [hcs.1, hN]
  obtain ⟨R, hR⟩ : ∃ R, sqS cs = R := ⟨_, rfl⟩
  rw [hR]
  have HR : Hid (ilv (lnS cs) (snS cs) = R) := hR
  obtain ⟨m, hm⟩ : ∃ m, (ptsL cs).length = m := ⟨_, rfl⟩
  have HM := Lib.hid hm
  have HMP : Hid (1 ≤ m) := by show 1 ≤ m; rw [← hm]; exact ptsL_ne (by rw [HCN.out]; exact h2)
  have HMN : Hid (m ≤ n) := by show m ≤ n; rw [← hm, ← HCN.out]; exact ptsL_len cs
  have HX : Hid ((lnS cs).length = m) := by show (lnS cs).length = m; rw [lnS_len, hm]
  have HY : Hid ((snS cs).length = m - 1) := by show (snS cs).length = m - 1; rw [snS_len, hm]
  clear hSP hN hl h2 hcs hR hm hnb
  have hs20 : w.heap.size < w.heap.size + 1 + 1 := (by omega); have hs30 : w.heap.size < w.heap.size + 1 + 1 + 1 := (by omega); have hs31 : w.heap.size + 1 < w.heap.size + 1 + 1 + 1 := (by omega)
  go_enter Try.func32, Try.ntmps32
  go_wp2_with (first | (go_at_call 18; refine (HSP.out _).mono ?_; rintro e wA hr; obtain ⟨g, cp, rfl, hge, hpt, hcp, hcq, hb⟩ := retpc_cap hr HN.out H1.out; clear hr; have HPT := Lib.hid hpt; have HCP := Lib.hid hcp; have HCQ := Lib.hid hcq; clear hpt hcp hcq; first | (have h2 := after_call2 hb hcl hfr hlt (by ((repeat' (first | (with_reducible exact Below.refl _ _) | (with_reducible refine Below.alloc ?_ ?_ _) | (with_reducible refine Below.setCell ?_ ?_ _) | (with_reducible refine Below.drew ?_) | (with_reducible refine below_drewN ?_ _) | (with_reducible assumption) | (with_reducible refine below_after (by with_reducible assumption) ?_) | go_size)); done)); obtain ⟨hclx, hfrx, hltx, hsz⟩ := after_call hb; (try simp only [World.size_alloc, World.size_setCell, World.size_drew] at hclx hfrx hltx hsz); (try (have hszl := Nat.lt_of_succ_le hsz)); obtain ⟨hcl, hfr, hlt⟩ := h2) | (obtain ⟨hcl, hfr, hlt, hsz⟩ := after_call hb; (try simp only [World.size_alloc, World.size_setCell, World.size_drew] at hcl hfr hlt hsz))) | (go_at_call 49; refine (partsOf_some L cs g cp n _ HN.out H2.out HL.out HCP.out HCQ.out (PtsAt.below HPT.out (by (repeat' (first | (with_reducible exact Below.refl _ _) | (with_reducible refine Below.alloc ?_ ?_ _) | (with_reducible refine Below.setCell ?_ ?_ _) | (with_reducible refine Below.drew ?_) | (with_reducible refine below_drewN ?_ _) | (with_reducible assumption) | (with_reducible refine below_after (by with_reducible assumption) ?_) | go_size)))) HCS.out).mono ?_; rintro e wB ⟨v, rfl, ho, hbB⟩; obtain ⟨pa, pc, rfl, hv⟩ := own_viewS ho; rw [HM.out]; obtain ⟨q, rfl, hqb, hpr⟩ := hv (by rw [HM.out]; exact HMP.out)))
  have HBA : Hid (Below w.heap.size w wA) := by show Below w.heap.size w wA; (repeat' (first | (with_reducible exact Below.refl _ _) | (with_reducible refine Below.alloc ?_ ?_ _) | (with_reducible refine Below.setCell ?_ ?_ _) | (with_reducible refine Below.drew ?_) | (with_reducible refine below_drewN ?_ _) | (with_reducible assumption) | (with_reducible refine below_after (by with_reducible assumption) ?_) | go_size))
  have HBB : Hid (Below wA.heap.size wA wB) := by show Below wA.heap.size wA wB; (repeat' (first | (with_reducible exact Below.refl _ _) | (with_reducible refine Below.alloc ?_ ?_ _) | (with_reducible refine Below.setCell ?_ ?_ _) | (with_reducible refine Below.drew ?_) | (with_reducible refine below_drewN ?_ _) | (with_reducible assumption) | (with_reducible refine below_after (by with_reducible assumption) ?_) | go_size))
  have HBW : Hid (Below w.heap.size w wB) := below_after HBB.out HBA.out
  have HPB := Lib.hid (PtsAt.below HPT.out HBB.out)
  have HPR := Lib.hid hpr
  clear hpr ho hbB hv
  (repeat (first | clear hb | clear hcl | clear hfr | clear hlt | clear hclx | clear hfrx | clear hltx))
  go_loopw [9, 23] (fun v i wr => ∃ (j : Nat) (out : List Int) (va : Option Addr) (vc : Nat), j ≤ m ∧ out = ilv ((lnS cs).take j) ((snS cs).take (j - 1)) ∧ v = .slice va out.length vc ∧ i = .int .i64 (j : Int) ∧ OwnI w.heap.size wr (.slice va out.length vc) out ∧ (Value.slice va out.length vc).ownBlock ≠ some g ∧ (Value.slice va out.length vc).ownBlock ≠ some q ∧ Kp wB wr g ∧ Kp wB wr q ∧ Below w.heap.size w wr) (fun _ i _ => m - (intOf i).toNat)
  case atStart => exact ⟨0, [], none, 0, by omega, rfl, rfl, rfl, World.ownsRow_nil _ _ _ _, by show none ≠ some g; simp, by show none ≠ some q; simp, Kp.refl HPB.out.1, Kp.refl HPR.out.1, HBW.out⟩
  case round =>
    obtain ⟨j, out, va, vc, hjm, hout, rfl, rfl, hO, hvg, hvq, hkg, hkq, hbel⟩ := hrel
    have HO := Lib.hid hO
    have HVG := Lib.hid hvg
    have HVQ := Lib.hid hvq
    have HKG := Lib.hid hkg
    have HKQ := Lib.hid hkq
    have HBL := Lib.hid hbel
    have HJM := Lib.hid hjm
    have HOUT := Lib.hid hout
    have hol : out.length ≤ 2 * m := by
      rw [hout, ilv_len _ _ (by simp; rw [HX.out, HY.out]; omega)]
      simp; rw [HX.out, HY.out]; omega
    have HOL : Hid (out.length ≤ 4000) := by show out.length ≤ 4000; have := HMN.out; have := HL.out; omega
    have HSQ : Hid (Sq w wr g q wr) := ⟨hbel, Kp.refl hkg.1, Kp.refl hkq.1⟩
    by_cases hlt : j < m
    · obtain ⟨⟨s, e⟩, hp⟩ : ∃ p, (ptsL cs).getD j (0, 0) = p := ⟨_, rfl⟩
      have hok : PartOk cs (s, e) := ptsL_ok cs _ (by rw [← hp, show (ptsL cs).getD j (0, 0) = (ptsL cs)[j]'(by rw [HM.out]; exact hlt) by simp [List.getD, HM.out, hlt]]; exact List.getElem_mem _)
      obtain ⟨hse, hen, hin⟩ := hok
      rw [HCN.out] at hen
      dsimp only at hse hen hin
      obtain ⟨l, hl⟩ : ∃ l, l = e + 1 - s := ⟨_, rfl⟩
      obtain ⟨l1, hl1⟩ : ∃ l1, l1 = e - s := ⟨_, rfl⟩
      obtain ⟨⟨us, vs⟩, hus⟩ : ∃ u, L.getD s (0, 0) = u := ⟨_, rfl⟩
      obtain ⟨⟨ue, ve⟩, hue⟩ : ∃ u, L.getD e (0, 0) = u := ⟨_, rfl⟩
      obtain ⟨⟨up, vp⟩, hup⟩ : ∃ u, L.getD (s + 1) (0, 0) = u := ⟨_, rfl⟩
      have c0 : wr.cell? ⟨q, j, none⟩ = some (.slice (some ⟨g, s * 2, none⟩) l l) := by
        have := (PrtAt.kp HPR.out hkq).2 j (by rw [HM.out]; exact hlt)
        rw [hp] at this
        rw [this, hl]; rfl
      have ss := HCS.out.2.2.1 s (by rw [HN.out]; omega)
      have se := HCS.out.2.2.1 e (by rw [HN.out]; omega)
      have sp := HCS.out.2.2.1 (s + 1) (by rw [HN.out]; omega)
      rw [hus] at ss
      rw [hue] at se
      rw [hup] at sp
      have HSS : Hid (Bn us ∧ Bn vs) := sm_bn ss
      have HSE : Hid (Bn ue ∧ Bn ve) := sm_bn se
      have HSN : Hid (Bn up ∧ Bn vp) := sm_bn sp
      obtain ⟨X, hX⟩ : ∃ X, lenP (us, vs) (ue, ve) = X := ⟨_, rfl⟩
      have HLB : Hid (∀ w, Calls Try.prog 52 #[.agg #[.int .i64 us, .int .i64 vs], .agg #[.int .i64 ue, .int .i64 ve]] w fun e w' => e = .returned (.int .i64 X) ∧ Below w.heap.size w w') := by
        intro w
        have := lengthBetween_any us vs ue ve w HSS.out.1 HSS.out.2 HSE.out.1 HSE.out.2
        rw [hX] at this
        exact this
      have hxj : (lnS cs).getD j 0 = X := by
        rw [lnS_get (by rw [HM.out]; exact hlt), hp, ← hX, ← hus, ← hue, lenP_part HNB.out HCS.out hse (by rw [HN.out]; exact hen) hin]
        rfl
      have HXJ := Lib.hid hxj
      have i0 : (0 : Int) ≤ (j : Int) := by omega
      have i1 : (j : Int) < (m : Int) := by omega
      have i2 : (m : Int) ≤ 2000 := by have := HMN.out; have := HL.out; omega
      have i3 : (l : Int) - 1 = (l1 : Int) := by omega
      have i4 : IntKind.i64.wrap (l1 : Int) = (l1 : Int) := by rw [IntKind.wrap_i64]; have := HL.out; omega
      have i5 : (0 : Int) ≤ (l1 : Int) := by omega
      have i6 : (l1 : Int) < (l : Int) := by omega
      have i7 : (l : Int) ≤ 2001 := by have := HL.out; omega
      have i8 : (1 : Int) < (l : Int) := by omega
      have i9 : (0 : Int) < (l : Int) := by omega
      have ia : 0 < l := by omega
      have ib : 1 < l := by omega
      have HLT := Lib.hid hlt
      have hcells : ∀ W', Sq w wr g q W' → (W'.cell? ⟨g, s * 2, none⟩ = some (.int .i64 us) ∧ W'.cell? ⟨g, s * 2 + 1, none⟩ = some (.int .i64 vs) ∧ W'.cell? ⟨g, s * 2 + l1 * 2, none⟩ = some (.int .i64 ue) ∧ W'.cell? ⟨g, s * 2 + l1 * 2 + 1, none⟩ = some (.int .i64 ve) ∧ W'.cell? ⟨g, s * 2 + 2, none⟩ = some (.int .i64 up) ∧ W'.cell? ⟨g, s * 2 + 2 + 1, none⟩ = some (.int .i64 vp)) := by
        intro W' hS
        have hP := PtsAt.kp (PtsAt.kp HPB.out HKG.out) hS.2.1
        obtain ⟨a1, a2⟩ := hP.2 s (by rw [HN.out]; omega)
        obtain ⟨a3, a4⟩ := hP.2 e (by rw [HN.out]; omega)
        obtain ⟨a5, a6⟩ := hP.2 (s + 1) (by rw [HN.out]; omega)
        rw [hus] at a1 a2
        rw [hue, show e * 2 = s * 2 + l1 * 2 by omega] at a3
        rw [hue, show e * 2 + 1 = s * 2 + l1 * 2 + 1 by omega] at a4
        rw [hup, show (s + 1) * 2 = s * 2 + 2 by omega] at a5
        rw [hup, show (s + 1) * 2 + 1 = s * 2 + 2 + 1 by omega] at a6
        exact ⟨a1, a2, a3, a4, a5, a6⟩
      have HCE := Lib.hid hcells
      by_cases hj0 : j = 0
      · have e1 : ¬ (0 : Int) < (j : Int) := by omega
        have e2 : (j : Int) ≤ 0 := by omega
        have HST : Hid (out ++ [X] = ilv ((lnS cs).take (j + 1)) ((snS cs).take (j + 1 - 1))) := by
          show _ = _
          rw [Nat.add_sub_cancel, ilv_stepx (by rw [HX.out]; exact hlt) (by rw [HY.out]; omega), hxj, hout, hj0]
        have HKR : Hid (∀ W', Sq w wr g q W' → W'.cell? ⟨g, s * 2, none⟩ = some (.int .i64 us) ∧ W'.cell? ⟨g, s * 2 + 1, none⟩ = some (.int .i64 vs) ∧ W'.cell? ⟨g, s * 2 + l1 * 2, none⟩ = some (.int .i64 ue) ∧ W'.cell? ⟨g, s * 2 + l1 * 2 + 1, none⟩ = some (.int .i64 ve) ∧ True ∧ True ∧ True ∧ True ∧ True) := by
          intro W' hS
          obtain ⟨a1, a2, a3, a4, _, _⟩ := HCE.out W' hS
          exact ⟨a1, a2, a3, a4, trivial, trivial, trivial, trivial, trivial⟩
        clear hO hvg hvq hkg hkq hbel hjm hout hol hlt hp hse hen hin hl hl1 hus hue hup ss se sp hX hxj hcells hj0
        go_wp2
        refine wp_region_held_drew (S := Sq w wr g q) (by kernel_rfl) ?_ (fun hHeld => ?_); focus ((try dsimp only); exact HSQ.out.below (by (repeat' (first | (with_reducible exact Below.refl _ _) | (with_reducible refine Below.alloc ?_ ?_ _) | (with_reducible refine Below.setCell ?_ ?_ _) | (with_reducible refine Below.drew ?_) | (with_reducible refine below_drewN ?_ _) | (with_reducible assumption) | (with_reducible refine below_after (by with_reducible assumption) ?_) | go_size))))
        have hHeld : Sq w wr g q _ := hHeld
        obtain ⟨wD, hwD⟩ : ∃ wD, wr.drew = wD := ⟨_, rfl⟩
        have HOD := Lib.hid (own_below HO.out (show Below wr.heap.size wr wD by rw [← hwD]; (repeat' (first | (with_reducible exact Below.refl _ _) | (with_reducible refine Below.alloc ?_ ?_ _) | (with_reducible refine Below.setCell ?_ ?_ _) | (with_reducible refine Below.drew ?_) | (with_reducible refine below_drewN ?_ _) | (with_reducible assumption) | (with_reducible refine below_after (by with_reducible assumption) ?_) | go_size))))
        rw [hwD] at hHeld ⊢; clear hwD
        (refine wpAnyH_take (i := 0) (v := ?_) rfl (by kernel_rfl) (by kernel_rfl) (by kernel_rfl) (fun _ _ _ h => h) (Or.inl ⟨rfl, ?_⟩) (by assumption) ?_; rotate_left; focus (intro W hSw; (try dsimp only at hSw); obtain ⟨y0, y1, y2, y3, y4, y5, y6, y7, y8⟩ := HKR.out _ hSw; go_simp; try (with_reducible rfl))); (try simp only [Act.put, List.getElem_toArray, List.getElem_cons_succ, List.getElem_cons_zero, List.setIfInBounds_toArray, List.set_cons_zero, List.set_cons_succ])
        (refine wpAnyH_take (i := 1) (v := ?_) rfl (by kernel_rfl) (by kernel_rfl) (by kernel_rfl) (fun _ _ _ h => h) (Or.inl ⟨rfl, ?_⟩) (by assumption) ?_; rotate_left; focus (intro W hSw; (try dsimp only at hSw); obtain ⟨y0, y1, y2, y3, y4, y5, y6, y7, y8⟩ := HKR.out _ hSw; go_simp; try (with_reducible rfl))); (try simp only [Act.put, List.getElem_toArray, List.getElem_cons_succ, List.getElem_cons_zero, List.setIfInBounds_toArray, List.set_cons_zero, List.set_cons_succ])
        (refine wpAnyH_take (i := 2) (v := ?_) rfl (by kernel_rfl) (by kernel_rfl) (by kernel_rfl) (fun _ _ _ h => h) (Or.inl ⟨rfl, ?_⟩) (by assumption) ?_; rotate_left; focus (intro W hSw; (try dsimp only at hSw); obtain ⟨y0, y1, y2, y3, y4, y5, y6, y7, y8⟩ := HKR.out _ hSw; go_simp; try (with_reducible rfl))); (try simp only [Act.put, List.getElem_toArray, List.getElem_cons_succ, List.getElem_cons_zero, List.setIfInBounds_toArray, List.set_cons_zero, List.set_cons_succ])
        (refine wpAnyH_take (i := 3) (v := ?_) rfl (by kernel_rfl) (by kernel_rfl) (by kernel_rfl) (fun _ _ _ h => h) (Or.inl ⟨rfl, ?_⟩) (by assumption) ?_; rotate_left; focus (intro W hSw; (try dsimp only at hSw); obtain ⟨y0, y1, y2, y3, y4, y5, y6, y7, y8⟩ := HKR.out _ hSw; go_simp; try (with_reducible rfl))); (try simp only [Act.put, List.getElem_toArray, List.getElem_cons_succ, List.getElem_cons_zero, List.setIfInBounds_toArray, List.set_cons_zero, List.set_cons_succ])
        (refine wpAnyH_take (i := 4) (v := ?_) rfl (by kernel_rfl) (by kernel_rfl) (by kernel_rfl) (fun _ _ _ h => h) (Or.inl ⟨rfl, ?_⟩) (by assumption) ?_; rotate_left; focus (intro W hSw; (try dsimp only at hSw); obtain ⟨y0, y1, y2, y3, y4, y5, y6, y7, y8⟩ := HKR.out _ hSw; go_simp; try (with_reducible rfl))); (try simp only [Act.put, List.getElem_toArray, List.getElem_cons_succ, List.getElem_cons_zero, List.setIfInBounds_toArray, List.set_cons_zero, List.set_cons_succ])
        (refine wpAnyH_take (i := 5) (v := ?_) rfl (by kernel_rfl) (by kernel_rfl) (by kernel_rfl) (fun _ _ _ h => h) (Or.inl ⟨rfl, ?_⟩) (by assumption) ?_; rotate_left; focus (intro W hSw; (try dsimp only at hSw); obtain ⟨y0, y1, y2, y3, y4, y5, y6, y7, y8⟩ := HKR.out _ hSw; go_simp; try (with_reducible rfl))); (try simp only [Act.put, List.getElem_toArray, List.getElem_cons_succ, List.getElem_cons_zero, List.setIfInBounds_toArray, List.set_cons_zero, List.set_cons_succ])
        (refine wpAnyH_take (i := 6) (v := ?_) rfl (by kernel_rfl) (by kernel_rfl) (by kernel_rfl) (fun _ _ _ h => h) (Or.inl ⟨rfl, ?_⟩) (by assumption) ?_; rotate_left; focus (intro W hSw; (try dsimp only at hSw); obtain ⟨y0, y1, y2, y3, y4, y5, y6, y7, y8⟩ := HKR.out _ hSw; go_simp; try (with_reducible rfl))); (try simp only [Act.put, List.getElem_toArray, List.getElem_cons_succ, List.getElem_cons_zero, List.setIfInBounds_toArray, List.set_cons_zero, List.set_cons_succ])
        (refine wpAnyH_take (i := 7) (v := ?_) rfl (by kernel_rfl) (by kernel_rfl) (by kernel_rfl) (fun _ _ _ h => h) (Or.inl ⟨rfl, ?_⟩) (by assumption) ?_; rotate_left; focus (intro W hSw; (try dsimp only at hSw); obtain ⟨y0, y1, y2, y3, y4, y5, y6, y7, y8⟩ := HKR.out _ hSw; go_simp; try (with_reducible rfl))); (try simp only [Act.put, List.getElem_toArray, List.getElem_cons_succ, List.getElem_cons_zero, List.setIfInBounds_toArray, List.set_cons_zero, List.set_cons_succ])
        (refine wpAnyH_take (i := 8) (v := ?_) rfl (by kernel_rfl) (by kernel_rfl) (by kernel_rfl) (fun _ _ _ h => h) (Or.inl ⟨rfl, ?_⟩) (by assumption) ?_; rotate_left; focus (intro W hSw; (try dsimp only at hSw); obtain ⟨y0, y1, y2, y3, y4, y5, y6, y7, y8⟩ := HKR.out _ hSw; go_simp; try (with_reducible rfl))); (try simp only [Act.put, List.getElem_toArray, List.getElem_cons_succ, List.getElem_cons_zero, List.setIfInBounds_toArray, List.set_cons_zero, List.set_cons_succ])
        (refine wpAnyH_take (i := 9) (v := ?_) rfl (by kernel_rfl) (by kernel_rfl) (by kernel_rfl) (fun _ _ _ h => h) (Or.inl ⟨rfl, ?_⟩) (by assumption) ?_; rotate_left; focus (intro W hSw; (try dsimp only at hSw); obtain ⟨y0, y1, y2, y3, y4, y5, y6, y7, y8⟩ := HKR.out _ hSw; go_simp; try (with_reducible rfl))); (try simp only [Act.put, List.getElem_toArray, List.getElem_cons_succ, List.getElem_cons_zero, List.setIfInBounds_toArray, List.set_cons_zero, List.set_cons_succ])
        refine wpAnyH_ready (rs := [10]) (by kernel_rfl) (by simp) ?_; refine AllReadyH.cons rfl (fun K hK => ?_) AllReadyH.nil
        go_simp; (go_at_call 52; refine (HLB.out _).mono ?_; rintro en w5 ⟨rfl, hb5⟩)
        have HO5 := Lib.hid (own_below HOD.out hb5)
        refine hK.out _ _ (hHeld.below hb5) (fun hHeld2 => ?_); clear hb5; (clear hHeld; rename _ => hHeld; clear hK K; have hHeld : Sq w wr g q _ := hHeld); (try simp only [Act.put, List.getElem_toArray, List.getElem_cons_succ, List.getElem_cons_zero, List.setIfInBounds_toArray, List.set_cons_zero, List.set_cons_succ])
        refine wpAnyH_ready (rs := [11]) (by kernel_rfl) (by simp) ?_; refine AllReadyH.cons rfl (fun K hK => ?_) AllReadyH.nil
        go_simp
        have c6 : (w5.alloc (.cells #[.int .i64 (X)] 2)).cell? ⟨w5.heap.size, 0, none⟩ = some (.int .i64 (X)) := by go_cell
        have HO6 := Lib.hid (own_below HO5.out ((Below.refl _ _).alloc (Nat.le_refl _) (.cells #[.int .i64 (X)] 2)))
        refine hK.out _ _ (hHeld.alloc _) (fun hHeld2 => ?_); (clear hHeld; rename _ => hHeld; clear hK K; have hHeld : Sq w wr g q _ := hHeld); (try simp only [Act.put, List.getElem_toArray, List.getElem_cons_succ, List.getElem_cons_zero, List.setIfInBounds_toArray, List.set_cons_zero, List.set_cons_succ])
        obtain ⟨w6, hw6⟩ : ∃ wx, w5.alloc (.cells #[.int .i64 (X)] 2) = wx := ⟨_, rfl⟩
        rw [hw6] at c6 HO6 hHeld ⊢; clear hw6
        refine wpAnyH_ready (rs := [12]) (by kernel_rfl) (by simp) ?_; refine AllReadyH.cons rfl (fun K hK => ?_) AllReadyH.nil
        refine wp_append_at w.heap.size (.tmp 49) (.tmp 60) rfl HO6.out c6 hHeld.1.size rfl rfl (by have := HOL.out; omega) ?_
        intro v9 w9 ho7 hg7 hat7
        have hs7 : Sq w wr g q w9 := hHeld.grown hg7 (fun k hk => (World.ownsRow.lt HO6.out k hk).1) HVG.out HVQ.out
        have hvg7 : v9.ownBlock ≠ some g := far_app (n := w6.heap.size) (s := 0) hat7 HVG.out hHeld.2.1.1
        have hvq7 : v9.ownBlock ≠ some q := far_app (n := w6.heap.size) (s := 0) hat7 HVQ.out hHeld.2.2.1
        obtain ⟨o9, hoe⟩ : ∃ o, out ++ [X] = o := ⟨_, rfl⟩
        rw [hoe] at ho7
        have HE9 := Lib.hid hoe
        have HOL9 : Hid (o9.length ≤ out.length + 1) := by show o9.length ≤ out.length + 1; rw [← hoe]; simp
        have HO9 := Lib.hid ho7
        have HVG9 := Lib.hid hvg7
        have HVQ9 := Lib.hid hvq7
        clear hoe ho7 hvg7 hvq7 hg7 hat7 c6
        refine hK.out _ _ hs7 (fun hHeld2 => ?_); clear hs7; (clear hHeld; rename _ => hHeld; clear hK K; have hHeld : Sq w wr g q _ := hHeld); (try simp only [Act.put, List.getElem_toArray, List.getElem_cons_succ, List.getElem_cons_zero, List.setIfInBounds_toArray, List.set_cons_zero, List.set_cons_succ])
        obtain ⟨va9, vc9, rfl⟩ := own_viewI HO9.out
        (try simp only [Act.put, List.getElem_toArray, List.getElem_cons_succ, List.getElem_cons_zero, List.setIfInBounds_toArray, List.set_cons_zero, List.set_cons_succ])
        (refine wpAnyH_take (i := 13) (v := ?_) rfl (by kernel_rfl) (by kernel_rfl) (by kernel_rfl) (fun _ _ _ h => h) (Or.inl ⟨rfl, ?_⟩) (by assumption) ?_; rotate_left; focus (intro W hSw; (try dsimp only at hSw); obtain ⟨y0, y1, y2, y3, y4, y5, y6, y7, y8⟩ := HKR.out _ hSw; go_simp; try (with_reducible rfl))); (try simp only [Act.put, List.getElem_toArray, List.getElem_cons_succ, List.getElem_cons_zero, List.setIfInBounds_toArray, List.set_cons_zero, List.set_cons_succ])
        refine wpAnyH_done (by kernel_rfl) ?_ _
        have HSQ9 := Lib.hid hHeld
        clear hHeld
        go_wp2
        go_roundw
        case rel => exact ⟨j + 1, o9, va9, vc9, by have := HLT.out; omega, by rw [← HE9.out]; exact HST.out, by first | rfl | (simp; done), by go_num, HO9.out, HVG9.out, HVQ9.out, HKG.out.trans HSQ9.out.2.1, HKQ.out.trans HSQ9.out.2.2, HSQ9.out.1⟩
        case measure => have := HLT.out; simp [intOf]; omega
      · obtain ⟨jz, hjz⟩ : ∃ jz, j = jz + 1 := ⟨j - 1, by omega⟩
        have HJZ := Lib.hid hjz
        obtain ⟨⟨sm, em⟩, hpm⟩ : ∃ p, (ptsL cs).getD jz (0, 0) = p := ⟨_, rfl⟩
        have hokm : PartOk cs (sm, em) := ptsL_ok cs _ (by rw [← hpm, show (ptsL cs).getD jz (0, 0) = (ptsL cs)[jz]'(by rw [HM.out]; omega) by simp [List.getD, HM.out, show jz < m by omega]]; exact List.getElem_mem _)
        obtain ⟨hsem, _, _⟩ := hokm
        dsimp only at hsem
        have hch := ptsL_chain cs (j := jz) (by rw [HM.out]; omega)
        rw [← hjz, hp, hpm] at hch
        dsimp only at hch
        obtain ⟨lm, hlm⟩ : ∃ lm, lm = em + 1 - sm := ⟨_, rfl⟩
        obtain ⟨l2, hl2⟩ : ∃ l2, l2 = em - 1 - sm := ⟨_, rfl⟩
        obtain ⟨⟨um, vm⟩, hum⟩ : ∃ u, L.getD (s - 1) (0, 0) = u := ⟨_, rfl⟩
        have cz : wr.cell? ⟨q, jz, none⟩ = some (.slice (some ⟨g, sm * 2, none⟩) lm lm) := by
          have := (PrtAt.kp HPR.out hkq).2 jz (by rw [HM.out]; omega)
          rw [hpm] at this
          rw [this, hlm]; rfl
        have sm' := HCS.out.2.2.1 (s - 1) (by rw [HN.out]; omega)
        rw [hum] at sm'
        have HSM : Hid (Bn um ∧ Bn vm) := sm_bn sm'
        obtain ⟨C, hC⟩ : ∃ C, cs.getD s 0 = C := ⟨_, rfl⟩
        have hcd := HCS.out.2.1 (s - 1) (by rw [HN.out]; omega)
        rw [show s - 1 + 1 = s by omega, show s - 1 + 2 = s + 1 by omega, hum, hup, hC] at hcd
        obtain ⟨cb1, cb2⟩ := HCS.out.2.2.2 s (by rw [HCN.out]; omega)
        rw [hC] at cb1 cb2
        have HDT : Hid (∀ w, Calls Try.prog 45 #[.agg #[.int .i64 um, .int .i64 vm], .agg #[.int .i64 up, .int .i64 vp]] w fun e w' => e = .returned (.int .i64 C) ∧ Below w.heap.size w w') := by
          intro w
          have := determinant_any um vm up vp w HSM.out.1 HSM.out.2 HSN.out.1 HSN.out.2
          rw [← hcd] at this
          exact this
        have hyj : (snS cs).getD jz 0 = C - 2 := by
          rw [snS_get (by rw [HM.out]; omega), hpm]
          show cs.getD em 0 - 2 = C - 2
          rw [← hch, hC]
        have HST : Hid (out ++ [C - 2] ++ [X] = ilv ((lnS cs).take (j + 1)) ((snS cs).take (j + 1 - 1))) := by
          show _ = _
          rw [Nat.add_sub_cancel, ilv_stepx (by rw [HX.out]; exact hlt) (by rw [HY.out]; omega), hxj]
          congr 1
          have e3 : (snS cs).take j = (snS cs).take jz ++ [C - 2] := by
            rw [hjz, take_snoc _ jz (by rw [HY.out]; omega), hyj]
          rw [e3, ilv_y _ _ _ (by simp; rw [HX.out, HY.out]; omega), hout, show j - 1 = jz by omega]
        have HKR : Hid (∀ W', Sq w wr g q W' → W'.cell? ⟨g, s * 2, none⟩ = some (.int .i64 us) ∧ W'.cell? ⟨g, s * 2 + 1, none⟩ = some (.int .i64 vs) ∧ W'.cell? ⟨g, s * 2 + l1 * 2, none⟩ = some (.int .i64 ue) ∧ W'.cell? ⟨g, s * 2 + l1 * 2 + 1, none⟩ = some (.int .i64 ve) ∧ W'.cell? ⟨g, s * 2 + 2, none⟩ = some (.int .i64 up) ∧ W'.cell? ⟨g, s * 2 + 2 + 1, none⟩ = some (.int .i64 vp) ∧ W'.cell? ⟨g, s * 2 + 3, none⟩ = some (.int .i64 vp) ∧ W'.cell? ⟨g, sm * 2 + l2 * 2, none⟩ = some (.int .i64 um) ∧ W'.cell? ⟨g, sm * 2 + l2 * 2 + 1, none⟩ = some (.int .i64 vm)) := by
          intro W' hS
          obtain ⟨a1, a2, a3, a4, a5, a6⟩ := HCE.out W' hS
          have hP := PtsAt.kp (PtsAt.kp HPB.out HKG.out) hS.2.1
          obtain ⟨a7, a8⟩ := hP.2 (s - 1) (by rw [HN.out]; omega)
          rw [hum, show (s - 1) * 2 = sm * 2 + l2 * 2 by omega] at a7
          rw [hum, show (s - 1) * 2 + 1 = sm * 2 + l2 * 2 + 1 by omega] at a8
          exact ⟨a1, a2, a3, a4, a5, a6, a6, a7, a8⟩
        have e1 : (0 : Int) < (j : Int) := by omega
        have k1 : (j : Int) - 1 = (jz : Int) := by omega
        have k2 : IntKind.i64.wrap (jz : Int) = (jz : Int) := by rw [IntKind.wrap_i64]; omega
        have k3 : (0 : Int) ≤ (jz : Int) := by omega
        have k4 : (jz : Int) < (m : Int) := by omega
        have k5 : (lm : Int) - 2 = (l2 : Int) := by omega
        have k6 : IntKind.i64.wrap (l2 : Int) = (l2 : Int) := by rw [IntKind.wrap_i64]; have := HL.out; omega
        have k7 : (0 : Int) ≤ (l2 : Int) := by omega
        have k8 : (l2 : Int) < (lm : Int) := by omega
        have k9 : IntKind.i64.wrap (C - 2) = C - 2 := by rw [IntKind.wrap_i64]; omega
        have ka : (lm : Int) ≤ 2001 := by have := HL.out; omega
        clear hO hvg hvq hkg hkq hbel hjm hout hol hlt hp hse hen hin hl hl1 hus hue hup ss se sp hX hxj hcells hj0 hjz hpm hsem hch hlm hl2 hum sm' hC hcd hyj
        go_wp2
        refine wp_region_held_drew (S := Sq w wr g q) (by kernel_rfl) ?_ (fun hHeld => ?_); focus ((try dsimp only); exact HSQ.out.below (by (repeat' (first | (with_reducible exact Below.refl _ _) | (with_reducible refine Below.alloc ?_ ?_ _) | (with_reducible refine Below.setCell ?_ ?_ _) | (with_reducible refine Below.drew ?_) | (with_reducible refine below_drewN ?_ _) | (with_reducible assumption) | (with_reducible refine below_after (by with_reducible assumption) ?_) | go_size))))
        have hHeld : Sq w wr g q _ := hHeld
        obtain ⟨wD, hwD⟩ : ∃ wD, wr.drew = wD := ⟨_, rfl⟩
        have HOD := Lib.hid (own_below HO.out (show Below wr.heap.size wr wD by rw [← hwD]; (repeat' (first | (with_reducible exact Below.refl _ _) | (with_reducible refine Below.alloc ?_ ?_ _) | (with_reducible refine Below.setCell ?_ ?_ _) | (with_reducible refine Below.drew ?_) | (with_reducible refine below_drewN ?_ _) | (with_reducible assumption) | (with_reducible refine below_after (by with_reducible assumption) ?_) | go_size))))
        rw [hwD] at hHeld ⊢; clear hwD
        (refine wpAnyH_take (i := 0) (v := ?_) rfl (by kernel_rfl) (by kernel_rfl) (by kernel_rfl) (fun _ _ _ h => h) (Or.inl ⟨rfl, ?_⟩) (by assumption) ?_; rotate_left; focus (intro W hSw; (try dsimp only at hSw); obtain ⟨y0, y1, y2, y3, y4, y5, y6, y7, y8⟩ := HKR.out _ hSw; go_simp; try (with_reducible rfl))); (try simp only [Act.put, List.getElem_toArray, List.getElem_cons_succ, List.getElem_cons_zero, List.setIfInBounds_toArray, List.set_cons_zero, List.set_cons_succ])
        (refine wpAnyH_take (i := 1) (v := ?_) rfl (by kernel_rfl) (by kernel_rfl) (by kernel_rfl) (fun _ _ _ h => h) (Or.inl ⟨rfl, ?_⟩) (by assumption) ?_; rotate_left; focus (intro W hSw; (try dsimp only at hSw); obtain ⟨y0, y1, y2, y3, y4, y5, y6, y7, y8⟩ := HKR.out _ hSw; go_simp; try (with_reducible rfl))); (try simp only [Act.put, List.getElem_toArray, List.getElem_cons_succ, List.getElem_cons_zero, List.setIfInBounds_toArray, List.set_cons_zero, List.set_cons_succ])
        (refine wpAnyH_take (i := 2) (v := ?_) rfl (by kernel_rfl) (by kernel_rfl) (by kernel_rfl) (fun _ _ _ h => h) (Or.inl ⟨rfl, ?_⟩) (by assumption) ?_; rotate_left; focus (intro W hSw; (try dsimp only at hSw); obtain ⟨y0, y1, y2, y3, y4, y5, y6, y7, y8⟩ := HKR.out _ hSw; go_simp; try (with_reducible rfl))); (try simp only [Act.put, List.getElem_toArray, List.getElem_cons_succ, List.getElem_cons_zero, List.setIfInBounds_toArray, List.set_cons_zero, List.set_cons_succ])
        (refine wpAnyH_take (i := 3) (v := ?_) rfl (by kernel_rfl) (by kernel_rfl) (by kernel_rfl) (fun _ _ _ h => h) (Or.inl ⟨rfl, ?_⟩) (by assumption) ?_; rotate_left; focus (intro W hSw; (try dsimp only at hSw); obtain ⟨y0, y1, y2, y3, y4, y5, y6, y7, y8⟩ := HKR.out _ hSw; go_simp; try (with_reducible rfl))); (try simp only [Act.put, List.getElem_toArray, List.getElem_cons_succ, List.getElem_cons_zero, List.setIfInBounds_toArray, List.set_cons_zero, List.set_cons_succ])
        (refine wpAnyH_take (i := 4) (v := ?_) rfl (by kernel_rfl) (by kernel_rfl) (by kernel_rfl) (fun _ _ _ h => h) (Or.inl ⟨rfl, ?_⟩) (by assumption) ?_; rotate_left; focus (intro W hSw; (try dsimp only at hSw); obtain ⟨y0, y1, y2, y3, y4, y5, y6, y7, y8⟩ := HKR.out _ hSw; go_simp; try (with_reducible rfl))); (try simp only [Act.put, List.getElem_toArray, List.getElem_cons_succ, List.getElem_cons_zero, List.setIfInBounds_toArray, List.set_cons_zero, List.set_cons_succ])
        (refine wpAnyH_take (i := 5) (v := ?_) rfl (by kernel_rfl) (by kernel_rfl) (by kernel_rfl) (fun _ _ _ h => h) (Or.inl ⟨rfl, ?_⟩) (by assumption) ?_; rotate_left; focus (intro W hSw; (try dsimp only at hSw); obtain ⟨y0, y1, y2, y3, y4, y5, y6, y7, y8⟩ := HKR.out _ hSw; go_simp; try (with_reducible rfl))); (try simp only [Act.put, List.getElem_toArray, List.getElem_cons_succ, List.getElem_cons_zero, List.setIfInBounds_toArray, List.set_cons_zero, List.set_cons_succ])
        (refine wpAnyH_take (i := 6) (v := ?_) rfl (by kernel_rfl) (by kernel_rfl) (by kernel_rfl) (fun _ _ _ h => h) (Or.inl ⟨rfl, ?_⟩) (by assumption) ?_; rotate_left; focus (intro W hSw; (try dsimp only at hSw); obtain ⟨y0, y1, y2, y3, y4, y5, y6, y7, y8⟩ := HKR.out _ hSw; go_simp; try (with_reducible rfl))); (try simp only [Act.put, List.getElem_toArray, List.getElem_cons_succ, List.getElem_cons_zero, List.setIfInBounds_toArray, List.set_cons_zero, List.set_cons_succ])
        (refine wpAnyH_take (i := 7) (v := ?_) rfl (by kernel_rfl) (by kernel_rfl) (by kernel_rfl) (fun _ _ _ h => h) (Or.inl ⟨rfl, ?_⟩) (by assumption) ?_; rotate_left; focus (intro W hSw; (try dsimp only at hSw); obtain ⟨y0, y1, y2, y3, y4, y5, y6, y7, y8⟩ := HKR.out _ hSw; go_simp; try (with_reducible rfl))); (try simp only [Act.put, List.getElem_toArray, List.getElem_cons_succ, List.getElem_cons_zero, List.setIfInBounds_toArray, List.set_cons_zero, List.set_cons_succ])
        (refine wpAnyH_take (i := 8) (v := ?_) rfl (by kernel_rfl) (by kernel_rfl) (by kernel_rfl) (fun _ _ _ h => h) (Or.inl ⟨rfl, ?_⟩) (by assumption) ?_; rotate_left; focus (intro W hSw; (try dsimp only at hSw); obtain ⟨y0, y1, y2, y3, y4, y5, y6, y7, y8⟩ := HKR.out _ hSw; go_simp; try (with_reducible rfl))); (try simp only [Act.put, List.getElem_toArray, List.getElem_cons_succ, List.getElem_cons_zero, List.setIfInBounds_toArray, List.set_cons_zero, List.set_cons_succ])
        (refine wpAnyH_take (i := 9) (v := ?_) rfl (by kernel_rfl) (by kernel_rfl) (by kernel_rfl) (fun _ _ _ h => h) (Or.inl ⟨rfl, ?_⟩) (by assumption) ?_; rotate_left; focus (intro W hSw; (try dsimp only at hSw); obtain ⟨y0, y1, y2, y3, y4, y5, y6, y7, y8⟩ := HKR.out _ hSw; go_simp; try (with_reducible rfl))); (try simp only [Act.put, List.getElem_toArray, List.getElem_cons_succ, List.getElem_cons_zero, List.setIfInBounds_toArray, List.set_cons_zero, List.set_cons_succ])
        refine wpAnyH_ready (rs := [10]) (by kernel_rfl) (by simp) ?_; refine AllReadyH.cons rfl (fun K hK => ?_) AllReadyH.nil
        go_simp; (go_at_call 45; refine (HDT.out _).mono ?_; rintro en w5 ⟨rfl, hb5⟩)
        have HO5 := Lib.hid (own_below HOD.out hb5)
        refine hK.out _ _ (hHeld.below hb5) (fun hHeld2 => ?_); clear hb5; (clear hHeld; rename _ => hHeld; clear hK K; have hHeld : Sq w wr g q _ := hHeld); (try simp only [Act.put, List.getElem_toArray, List.getElem_cons_succ, List.getElem_cons_zero, List.setIfInBounds_toArray, List.set_cons_zero, List.set_cons_succ])
        (refine wpAnyH_take (i := 11) (v := ?_) rfl (by kernel_rfl) (by kernel_rfl) (by kernel_rfl) (fun _ _ _ h => h) (Or.inl ⟨rfl, ?_⟩) (by assumption) ?_; rotate_left; focus (intro W hSw; (try dsimp only at hSw); obtain ⟨y0, y1, y2, y3, y4, y5, y6, y7, y8⟩ := HKR.out _ hSw; go_simp; try (with_reducible rfl))); (try simp only [Act.put, List.getElem_toArray, List.getElem_cons_succ, List.getElem_cons_zero, List.setIfInBounds_toArray, List.set_cons_zero, List.set_cons_succ])
        refine wpAnyH_ready (rs := [12]) (by kernel_rfl) (by simp) ?_; refine AllReadyH.cons rfl (fun K hK => ?_) AllReadyH.nil
        go_simp
        have c6 : (w5.alloc (.cells #[.int .i64 (C - 2)] 2)).cell? ⟨w5.heap.size, 0, none⟩ = some (.int .i64 (C - 2)) := by go_cell
        have HO6 := Lib.hid (own_below HO5.out ((Below.refl _ _).alloc (Nat.le_refl _) (.cells #[.int .i64 (C - 2)] 2)))
        refine hK.out _ _ (hHeld.alloc _) (fun hHeld2 => ?_); (clear hHeld; rename _ => hHeld; clear hK K; have hHeld : Sq w wr g q _ := hHeld); (try simp only [Act.put, List.getElem_toArray, List.getElem_cons_succ, List.getElem_cons_zero, List.setIfInBounds_toArray, List.set_cons_zero, List.set_cons_succ])
        obtain ⟨w6, hw6⟩ : ∃ wx, w5.alloc (.cells #[.int .i64 (C - 2)] 2) = wx := ⟨_, rfl⟩
        rw [hw6] at c6 HO6 hHeld ⊢; clear hw6
        refine wpAnyH_ready (rs := [13]) (by kernel_rfl) (by simp) ?_; refine AllReadyH.cons rfl (fun K hK => ?_) AllReadyH.nil
        refine wp_append_at w.heap.size (.tmp 35) (.tmp 47) rfl HO6.out c6 hHeld.1.size rfl rfl (by have := HOL.out; omega) ?_
        intro v7 w7 ho7 hg7 hat7
        have hs7 : Sq w wr g q w7 := hHeld.grown hg7 (fun k hk => (World.ownsRow.lt HO6.out k hk).1) HVG.out HVQ.out
        have hvg7 : v7.ownBlock ≠ some g := far_app (n := w6.heap.size) (s := 0) hat7 HVG.out hHeld.2.1.1
        have hvq7 : v7.ownBlock ≠ some q := far_app (n := w6.heap.size) (s := 0) hat7 HVQ.out hHeld.2.2.1
        obtain ⟨o7, hoe⟩ : ∃ o, out ++ [C - 2] = o := ⟨_, rfl⟩
        rw [hoe] at ho7
        have HE7 := Lib.hid hoe
        have HOL7 : Hid (o7.length ≤ out.length + 1) := by show o7.length ≤ out.length + 1; rw [← hoe]; simp
        have HO7 := Lib.hid ho7
        have HVG7 := Lib.hid hvg7
        have HVQ7 := Lib.hid hvq7
        clear hoe ho7 hvg7 hvq7 hg7 hat7 c6
        refine hK.out _ _ hs7 (fun hHeld2 => ?_); clear hs7; (clear hHeld; rename _ => hHeld; clear hK K; have hHeld : Sq w wr g q _ := hHeld); (try simp only [Act.put, List.getElem_toArray, List.getElem_cons_succ, List.getElem_cons_zero, List.setIfInBounds_toArray, List.set_cons_zero, List.set_cons_succ])
        obtain ⟨va7, vc7, rfl⟩ := own_viewI HO7.out
        (try simp only [Act.put, List.getElem_toArray, List.getElem_cons_succ, List.getElem_cons_zero, List.setIfInBounds_toArray, List.set_cons_zero, List.set_cons_succ])
        (refine wpAnyH_take (i := 14) (v := ?_) rfl (by kernel_rfl) (by kernel_rfl) (by kernel_rfl) (fun _ _ _ h => h) (Or.inl ⟨rfl, ?_⟩) (by assumption) ?_; rotate_left; focus (intro W hSw; (try dsimp only at hSw); obtain ⟨y0, y1, y2, y3, y4, y5, y6, y7, y8⟩ := HKR.out _ hSw; go_simp; try (with_reducible rfl))); (try simp only [Act.put, List.getElem_toArray, List.getElem_cons_succ, List.getElem_cons_zero, List.setIfInBounds_toArray, List.set_cons_zero, List.set_cons_succ])
        refine wpAnyH_done (by kernel_rfl) ?_ _
        have HSQ7 := Lib.hid hHeld
        clear hHeld
        go_wp2
        have HOL8 : Hid (o7.length ≤ 4001) := by show o7.length ≤ 4001; have := HOL7.out; have := HOL.out; omega
        refine wp_region_held_drew (S := Sq w wr g q) (by kernel_rfl) ?_ (fun hHeld => ?_); focus ((try dsimp only); exact HSQ7.out.below (by (repeat' (first | (with_reducible exact Below.refl _ _) | (with_reducible refine Below.alloc ?_ ?_ _) | (with_reducible refine Below.setCell ?_ ?_ _) | (with_reducible refine Below.drew ?_) | (with_reducible refine below_drewN ?_ _) | (with_reducible assumption) | (with_reducible refine below_after (by with_reducible assumption) ?_) | go_size))))
        have hHeld : Sq w wr g q _ := hHeld
        obtain ⟨wD, hwD⟩ : ∃ wD, w7.drew = wD := ⟨_, rfl⟩
        have HOD := Lib.hid (own_below HO7.out (show Below w7.heap.size w7 wD by rw [← hwD]; (repeat' (first | (with_reducible exact Below.refl _ _) | (with_reducible refine Below.alloc ?_ ?_ _) | (with_reducible refine Below.setCell ?_ ?_ _) | (with_reducible refine Below.drew ?_) | (with_reducible refine below_drewN ?_ _) | (with_reducible assumption) | (with_reducible refine below_after (by with_reducible assumption) ?_) | go_size))))
        rw [hwD] at hHeld ⊢; clear hwD
        (refine wpAnyH_take (i := 0) (v := ?_) rfl (by kernel_rfl) (by kernel_rfl) (by kernel_rfl) (fun _ _ _ h => h) (Or.inl ⟨rfl, ?_⟩) (by assumption) ?_; rotate_left; focus (intro W hSw; (try dsimp only at hSw); obtain ⟨y0, y1, y2, y3, y4, y5, y6, y7, y8⟩ := HKR.out _ hSw; go_simp; try (with_reducible rfl))); (try simp only [Act.put, List.getElem_toArray, List.getElem_cons_succ, List.getElem_cons_zero, List.setIfInBounds_toArray, List.set_cons_zero, List.set_cons_succ])
        (refine wpAnyH_take (i := 1) (v := ?_) rfl (by kernel_rfl) (by kernel_rfl) (by kernel_rfl) (fun _ _ _ h => h) (Or.inl ⟨rfl, ?_⟩) (by assumption) ?_; rotate_left; focus (intro W hSw; (try dsimp only at hSw); obtain ⟨y0, y1, y2, y3, y4, y5, y6, y7, y8⟩ := HKR.out _ hSw; go_simp; try (with_reducible rfl))); (try simp only [Act.put, List.getElem_toArray, List.getElem_cons_succ, List.getElem_cons_zero, List.setIfInBounds_toArray, List.set_cons_zero, List.set_cons_succ])
        (refine wpAnyH_take (i := 2) (v := ?_) rfl (by kernel_rfl) (by kernel_rfl) (by kernel_rfl) (fun _ _ _ h => h) (Or.inl ⟨rfl, ?_⟩) (by assumption) ?_; rotate_left; focus (intro W hSw; (try dsimp only at hSw); obtain ⟨y0, y1, y2, y3, y4, y5, y6, y7, y8⟩ := HKR.out _ hSw; go_simp; try (with_reducible rfl))); (try simp only [Act.put, List.getElem_toArray, List.getElem_cons_succ, List.getElem_cons_zero, List.setIfInBounds_toArray, List.set_cons_zero, List.set_cons_succ])
        (refine wpAnyH_take (i := 3) (v := ?_) rfl (by kernel_rfl) (by kernel_rfl) (by kernel_rfl) (fun _ _ _ h => h) (Or.inl ⟨rfl, ?_⟩) (by assumption) ?_; rotate_left; focus (intro W hSw; (try dsimp only at hSw); obtain ⟨y0, y1, y2, y3, y4, y5, y6, y7, y8⟩ := HKR.out _ hSw; go_simp; try (with_reducible rfl))); (try simp only [Act.put, List.getElem_toArray, List.getElem_cons_succ, List.getElem_cons_zero, List.setIfInBounds_toArray, List.set_cons_zero, List.set_cons_succ])
        (refine wpAnyH_take (i := 4) (v := ?_) rfl (by kernel_rfl) (by kernel_rfl) (by kernel_rfl) (fun _ _ _ h => h) (Or.inl ⟨rfl, ?_⟩) (by assumption) ?_; rotate_left; focus (intro W hSw; (try dsimp only at hSw); obtain ⟨y0, y1, y2, y3, y4, y5, y6, y7, y8⟩ := HKR.out _ hSw; go_simp; try (with_reducible rfl))); (try simp only [Act.put, List.getElem_toArray, List.getElem_cons_succ, List.getElem_cons_zero, List.setIfInBounds_toArray, List.set_cons_zero, List.set_cons_succ])
        (refine wpAnyH_take (i := 5) (v := ?_) rfl (by kernel_rfl) (by kernel_rfl) (by kernel_rfl) (fun _ _ _ h => h) (Or.inl ⟨rfl, ?_⟩) (by assumption) ?_; rotate_left; focus (intro W hSw; (try dsimp only at hSw); obtain ⟨y0, y1, y2, y3, y4, y5, y6, y7, y8⟩ := HKR.out _ hSw; go_simp; try (with_reducible rfl))); (try simp only [Act.put, List.getElem_toArray, List.getElem_cons_succ, List.getElem_cons_zero, List.setIfInBounds_toArray, List.set_cons_zero, List.set_cons_succ])
        (refine wpAnyH_take (i := 6) (v := ?_) rfl (by kernel_rfl) (by kernel_rfl) (by kernel_rfl) (fun _ _ _ h => h) (Or.inl ⟨rfl, ?_⟩) (by assumption) ?_; rotate_left; focus (intro W hSw; (try dsimp only at hSw); obtain ⟨y0, y1, y2, y3, y4, y5, y6, y7, y8⟩ := HKR.out _ hSw; go_simp; try (with_reducible rfl))); (try simp only [Act.put, List.getElem_toArray, List.getElem_cons_succ, List.getElem_cons_zero, List.setIfInBounds_toArray, List.set_cons_zero, List.set_cons_succ])
        (refine wpAnyH_take (i := 7) (v := ?_) rfl (by kernel_rfl) (by kernel_rfl) (by kernel_rfl) (fun _ _ _ h => h) (Or.inl ⟨rfl, ?_⟩) (by assumption) ?_; rotate_left; focus (intro W hSw; (try dsimp only at hSw); obtain ⟨y0, y1, y2, y3, y4, y5, y6, y7, y8⟩ := HKR.out _ hSw; go_simp; try (with_reducible rfl))); (try simp only [Act.put, List.getElem_toArray, List.getElem_cons_succ, List.getElem_cons_zero, List.setIfInBounds_toArray, List.set_cons_zero, List.set_cons_succ])
        (refine wpAnyH_take (i := 8) (v := ?_) rfl (by kernel_rfl) (by kernel_rfl) (by kernel_rfl) (fun _ _ _ h => h) (Or.inl ⟨rfl, ?_⟩) (by assumption) ?_; rotate_left; focus (intro W hSw; (try dsimp only at hSw); obtain ⟨y0, y1, y2, y3, y4, y5, y6, y7, y8⟩ := HKR.out _ hSw; go_simp; try (with_reducible rfl))); (try simp only [Act.put, List.getElem_toArray, List.getElem_cons_succ, List.getElem_cons_zero, List.setIfInBounds_toArray, List.set_cons_zero, List.set_cons_succ])
        (refine wpAnyH_take (i := 9) (v := ?_) rfl (by kernel_rfl) (by kernel_rfl) (by kernel_rfl) (fun _ _ _ h => h) (Or.inl ⟨rfl, ?_⟩) (by assumption) ?_; rotate_left; focus (intro W hSw; (try dsimp only at hSw); obtain ⟨y0, y1, y2, y3, y4, y5, y6, y7, y8⟩ := HKR.out _ hSw; go_simp; try (with_reducible rfl))); (try simp only [Act.put, List.getElem_toArray, List.getElem_cons_succ, List.getElem_cons_zero, List.setIfInBounds_toArray, List.set_cons_zero, List.set_cons_succ])
        refine wpAnyH_ready (rs := [10]) (by kernel_rfl) (by simp) ?_; refine AllReadyH.cons rfl (fun K hK => ?_) AllReadyH.nil
        go_simp; (go_at_call 52; refine (HLB.out _).mono ?_; rintro en w5 ⟨rfl, hb5⟩)
        have HO5 := Lib.hid (own_below HOD.out hb5)
        refine hK.out _ _ (hHeld.below hb5) (fun hHeld2 => ?_); clear hb5; (clear hHeld; rename _ => hHeld; clear hK K; have hHeld : Sq w wr g q _ := hHeld); (try simp only [Act.put, List.getElem_toArray, List.getElem_cons_succ, List.getElem_cons_zero, List.setIfInBounds_toArray, List.set_cons_zero, List.set_cons_succ])
        refine wpAnyH_ready (rs := [11]) (by kernel_rfl) (by simp) ?_; refine AllReadyH.cons rfl (fun K hK => ?_) AllReadyH.nil
        go_simp
        have c6 : (w5.alloc (.cells #[.int .i64 (X)] 2)).cell? ⟨w5.heap.size, 0, none⟩ = some (.int .i64 (X)) := by go_cell
        have HO6 := Lib.hid (own_below HO5.out ((Below.refl _ _).alloc (Nat.le_refl _) (.cells #[.int .i64 (X)] 2)))
        refine hK.out _ _ (hHeld.alloc _) (fun hHeld2 => ?_); (clear hHeld; rename _ => hHeld; clear hK K; have hHeld : Sq w wr g q _ := hHeld); (try simp only [Act.put, List.getElem_toArray, List.getElem_cons_succ, List.getElem_cons_zero, List.setIfInBounds_toArray, List.set_cons_zero, List.set_cons_succ])
        obtain ⟨w6, hw6⟩ : ∃ wx, w5.alloc (.cells #[.int .i64 (X)] 2) = wx := ⟨_, rfl⟩
        rw [hw6] at c6 HO6 hHeld ⊢; clear hw6
        refine wpAnyH_ready (rs := [12]) (by kernel_rfl) (by simp) ?_; refine AllReadyH.cons rfl (fun K hK => ?_) AllReadyH.nil
        refine wp_append_at w.heap.size (.tmp 49) (.tmp 60) rfl HO6.out c6 hHeld.1.size rfl rfl (by have := HOL8.out; omega) ?_
        intro v9 w9 ho7 hg7 hat7
        have hs7 : Sq w wr g q w9 := hHeld.grown hg7 (fun k hk => (World.ownsRow.lt HO6.out k hk).1) HVG7.out HVQ7.out
        have hvg7 : v9.ownBlock ≠ some g := far_app (n := w6.heap.size) (s := 0) hat7 HVG7.out hHeld.2.1.1
        have hvq7 : v9.ownBlock ≠ some q := far_app (n := w6.heap.size) (s := 0) hat7 HVQ7.out hHeld.2.2.1
        obtain ⟨o9, hoe⟩ : ∃ o, o7 ++ [X] = o := ⟨_, rfl⟩
        rw [hoe] at ho7
        have HE9 := Lib.hid hoe
        have HOL9 : Hid (o9.length ≤ o7.length + 1) := by show o9.length ≤ o7.length + 1; rw [← hoe]; simp
        have HO9 := Lib.hid ho7
        have HVG9 := Lib.hid hvg7
        have HVQ9 := Lib.hid hvq7
        clear hoe ho7 hvg7 hvq7 hg7 hat7 c6
        refine hK.out _ _ hs7 (fun hHeld2 => ?_); clear hs7; (clear hHeld; rename _ => hHeld; clear hK K; have hHeld : Sq w wr g q _ := hHeld); (try simp only [Act.put, List.getElem_toArray, List.getElem_cons_succ, List.getElem_cons_zero, List.setIfInBounds_toArray, List.set_cons_zero, List.set_cons_succ])
        obtain ⟨va9, vc9, rfl⟩ := own_viewI HO9.out
        (try simp only [Act.put, List.getElem_toArray, List.getElem_cons_succ, List.getElem_cons_zero, List.setIfInBounds_toArray, List.set_cons_zero, List.set_cons_succ])
        (refine wpAnyH_take (i := 13) (v := ?_) rfl (by kernel_rfl) (by kernel_rfl) (by kernel_rfl) (fun _ _ _ h => h) (Or.inl ⟨rfl, ?_⟩) (by assumption) ?_; rotate_left; focus (intro W hSw; (try dsimp only at hSw); obtain ⟨y0, y1, y2, y3, y4, y5, y6, y7, y8⟩ := HKR.out _ hSw; go_simp; try (with_reducible rfl))); (try simp only [Act.put, List.getElem_toArray, List.getElem_cons_succ, List.getElem_cons_zero, List.setIfInBounds_toArray, List.set_cons_zero, List.set_cons_succ])
        refine wpAnyH_done (by kernel_rfl) ?_ _
        have HSQ9 := Lib.hid hHeld
        clear hHeld
        go_wp2
        go_roundw
        case rel => exact ⟨j + 1, o9, va9, vc9, by have := HLT.out; omega, by rw [← HE9.out, ← HE7.out]; exact HST.out, by first | rfl | (simp; done), by go_num, HO9.out, HVG9.out, HVQ9.out, HKG.out.trans HSQ9.out.2.1, HKQ.out.trans HSQ9.out.2.2, HSQ9.out.1⟩
        case measure => have := HLT.out; simp [intOf]; omega
    · have hjm2 : j = m := by omega
      have hfin : out = R := by
        rw [hout, hjm2, List.take_of_length_le (by rw [HX.out]; omega), List.take_of_length_le (by rw [HY.out]; omega)]
        exact HR.out
      subst hfin
      have i1 : ¬ (j : Int) < (m : Int) := by omega
      clear hO hvg hvq hkg hkq hbel hjm hout hol hlt
      go_wp2
      go_ret2
      exact ⟨_, rfl, HO.out, HBL.out⟩
theorem impl_SequenceOf_any (a b c d : Int) (w : World) : Calls Try.prog 32 #[.agg #[.int .i64 a, .int .i64 b], .agg #[.int .i64 c, .int .i64 d]] w (RetIC w (sqR (a, b) (c, d)) (slC (a, b) (c, d))) := by
  rcases sl_cases (a, b) (c, d) with ⟨hc, _, _, _, h2, h3⟩ | ⟨hc, hn, _⟩
  · have hSP : ∀ w, Calls Try.prog 18 #[.agg #[.int .i64 a, .int .i64 b], .agg #[.int .i64 c, .int .i64 d]] w (RetPC w (slL (a, b) (c, d)) 0) := by
      intro w; have := impl_SailPoints_any a b c d w; rw [hc] at this; exact this
    unfold sqR
    rw [if_pos hc, hc]
    exact impl_SequenceOf_some a b c d _ _ _ w rfl h2 h3 (slL_nbr _ _) (cnL_of _ _) hSP
  · have hSP : ∀ w, Calls Try.prog 18 #[.agg #[.int .i64 a, .int .i64 b], .agg #[.int .i64 c, .int .i64 d]] w (RetPC w [] (slC (a, b) (c, d))) := by
      intro w; have := impl_SailPoints_any a b c d w; rw [hn] at this; exact this
    unfold sqR
    rw [if_neg hc]
    generalize slC (a, b) (c, d) = C at *
    have HSP := Lib.hid hSP
    clear hSP hn hc
    have hs20 : w.heap.size < w.heap.size + 1 + 1 := (by omega); have hs30 : w.heap.size < w.heap.size + 1 + 1 + 1 := (by omega); have hs31 : w.heap.size + 1 < w.heap.size + 1 + 1 + 1 := (by omega)
    go_enter Try.func32, Try.ntmps32
    go_wp2_with (first | (go_at_call 18; refine (HSP.out _).mono ?_; rintro e wn hr; obtain ⟨va, vc, rfl, hb⟩ := retpc_none hr rfl; clear hr; first | (have h2 := after_call2 hb hcl hfr hlt (by ((repeat' (first | (with_reducible exact Below.refl _ _) | (with_reducible refine Below.alloc ?_ ?_ _) | (with_reducible refine Below.setCell ?_ ?_ _) | (with_reducible refine Below.drew ?_) | (with_reducible refine below_drewN ?_ _) | (with_reducible assumption) | (with_reducible refine below_after (by with_reducible assumption) ?_) | go_size)); done)); obtain ⟨hclx, hfrx, hltx, hsz⟩ := after_call hb; (try simp only [World.size_alloc, World.size_setCell, World.size_drew] at hclx hfrx hltx hsz); (try (have hszl := Nat.lt_of_succ_le hsz)); obtain ⟨hcl, hfr, hlt⟩ := h2) | (obtain ⟨hcl, hfr, hlt, hsz⟩ := after_call hb; (try simp only [World.size_alloc, World.size_setCell, World.size_drew] at hcl hfr hlt hsz))) | (go_at_call 49; refine (partsOf_none _ _ _).mono ?_; rintro e wn ⟨rfl, rfl⟩))
    refine wp_loop_rounds 1 ?_
    rw [rounds_succ]
    go_wp2
    go_ret2
    exact ⟨_, rfl, World.ownsRow_nil _ _ _ _, by (repeat' (first | (with_reducible exact Below.refl _ _) | (with_reducible refine Below.alloc ?_ ?_ _) | (with_reducible refine Below.setCell ?_ ?_ _) | (with_reducible refine Below.drew ?_) | (with_reducible refine below_drewN ?_ _) | (with_reducible assumption) | (with_reducible refine below_after (by with_reducible assumption) ?_) | go_size))⟩
end Go.Proofs.Ytjiaokcbhpmodaa
