/-
  DualPolygon in the model, and in the program at any list (own work).
-/
import Derived.Test.YtkfoelkkllpmdaaPgD
namespace Go.Proofs.Ytkfoelkkllpmdaa
open Go.ChangeShapes Go.WideShapes Go.ChangeAt Go.RowKit
set_option linter.unusedVariables false
set_option maxRecDepth 100000
set_option linter.unusedSimpArgs false
set_option maxRecDepth 100000

theorem RetPC.nil {w w' : World} {c : Int} (hb : Below w.heap.size w w') : RetPC w [] c (.returned (.tuple #[.slice none 0 0, .int .i64 c])) w' := ⟨_, rfl, World.ownsRow_nil _ _ _ _, hb⟩
theorem impl_DualPolygon_any (a : Option Addr) (n cap : Nat) (ps : List (Int × Int)) (w : World) (h : LV w a n ps) : Calls Try.prog 44 #[.slice a n cap] w (RetPC w (duL ps) (duC ps)) := by
  have HI := Lib.hid (impl_IsPolygon_any a n cap ps w h)
  cases hp : isP ps
  · rw [(du_no hp).1, (du_no hp).2]
    rw [hp] at HI
    clear h hp
    go_enter Try.func44, Try.ntmps44
    go_wp2_with (go_at_call 20; refine HI.out.mono ?_; rintro e w1 ⟨rfl, hb⟩)
    refine bodyPost_ret (v := .tuple #[.slice none 0 0, .int .i64 1]) (by simp (maxDischargeDepth := 8) [results, Try.results44, go_sem, *]) rfl ?_
    exact RetPC.nil hb
  · cases hk : duB ps
    · rw [(du_st hp hk).1, (du_st hp hk).2]
      rw [hp] at HI
      have HL := Lib.hid (h.poly hp)
      have HN : Hid (∀ w1, Below w.heap.size w w1 → Calls Try.prog 70 #[.slice a n cap] w1 fun e w' => e = .returned (.int .i64 (innL ps)) ∧ Below w1.heap.size w1 w') := fun w1 hb => innerOf_lp a n cap ps w1 (HL.out.below hb)
      have HW : Hid (∀ w1, Below w.heap.size w w1 → Calls Try.prog 75 #[.slice a n cap, .agg #[.int .i64 0, .int .i64 0]] w1 fun e w' => e = .returned (.int .i64 (whL ps (0, 0))) ∧ Below w1.heap.size w1 w') := fun w1 hb => whereIn_lp a n cap ps 0 0 w1 (HL.out.below hb) (by decide)
      unfold duB at hk
      obtain ⟨I, hI⟩ : ∃ I, innL ps = I := ⟨_, rfl⟩
      obtain ⟨V, hV⟩ : ∃ V, whL ps (0, 0) = V := ⟨_, rfl⟩
      rw [hI] at HN hk
      rw [hV] at HW hk
      clear h hp hI hV HL
      cases hi : (I == 1)
      · have hb1 : (I != 1) = true := by unfold bne; rw [hi]; rfl
        clear hk hi
        go_enter Try.func44, Try.ntmps44
        go_wp2_with (first | (go_at_call 20; refine HI.out.mono ?_; rintro e w1 ⟨rfl, hb⟩) | (go_at_call 70; refine (HN.out _ hb).mono ?_; rintro e w2 ⟨rfl, hb2⟩))
        refine bodyPost_ret (v := .tuple #[.slice none 0 0, .int .i64 5]) (by simp (maxDischargeDepth := 8) [results, Try.results44, go_sem, *]) rfl ?_
        exact RetPC.nil (below_after hb2 hb)
      · have hb1 : (I != 1) = false := by unfold bne; rw [hi]; rfl
        rw [hi] at hk
        have hb2 : (V != 1) = true := by unfold bne; rw [show (V == 1) = false from by simpa using hk]; rfl
        clear hk hi
        go_enter Try.func44, Try.ntmps44
        go_wp2_with (first | (go_at_call 20; refine HI.out.mono ?_; rintro e w1 ⟨rfl, hb⟩) | (go_at_call 70; refine (HN.out _ hb).mono ?_; rintro e w2 ⟨rfl, hb22⟩) | (go_at_call 75; refine (HW.out _ (below_after hb22 hb)).mono ?_; rintro e w3 ⟨rfl, hb3⟩))
        refine bodyPost_ret (v := .tuple #[.slice none 0 0, .int .i64 5]) (by simp (maxDischargeDepth := 8) [results, Try.results44, go_sem, *]) rfl ?_
        exact RetPC.nil (below_after hb3 (below_after hb22 hb))
    · have hL := h.poly hp
      obtain ⟨g, rfl, _⟩ := id hL
      exact impl_Dual_yes n g cap ps w hp hk hL
/-- The determinants of the sides are their lengths. -/
theorem du_gcd {ps : List (Int × Int)} (hp : isP ps = true) (hk : duB ps = true) : ∀ i, i < ps.length → dvL ps i = gcL ps i := by
  obtain ⟨h3, _, hin, _⟩ := isP_iff.1 hp
  have hpos := du_pos hk
  unfold duB at hk
  simp only [Bool.and_eq_true, beq_iff_eq] at hk
  have hinn : (areaL ps - bordL ps + 2).tdiv 2 = 1 := hk.1
  have hle : areaL ps - bordL ps ≤ 1 := by
    apply Classical.byContradiction
    intro hn
    rw [Int.tdiv_eq_ediv_of_nonneg (by omega)] at hinn
    omega
  exact dual_len (pl_rnd h3) hpos hle
def duK (ps : List (Int × Int)) (j : Nat) : List (Int × Int) := (List.range j).map (duP ps)
theorem duK_snoc (ps : List (Int × Int)) (j : Nat) : flat (duK ps (j + 1)) = flat (duK ps j) ++ [(duP ps j).1, (duP ps j).2] := by simp [duK, flat, List.range_succ]
theorem duK_len (ps : List (Int × Int)) (j : Nat) : (duK ps j).length = j := by simp [duK]
/-- A list of points that grows by one that has just been laid. -/
theorem wpList_app_F1 (w0 : World) {W : World} {ops : Array Oper} {rest : List Oper} {o : Oper} {a : Act} {Q : Exit → Act → World → Prop} (hgd : o.guard = none) (s x : Operand)
    (ho : o.op = .call { callee := .builtin .append, args := #[s, x], argTypes := #[25, 25] })
    {v : Value} {n g c : Nat} {xs : List Int} {a0 a1 : Int} (hown : OwnF w0.heap.size W v n xs) (c0 : W.cell? ⟨g, 0, none⟩ = some (.int .i64 a0)) (c1 : W.cell? ⟨g, 1, none⟩ = some (.int .i64 a1)) (hb : Below w0.heap.size w0 W) (hs : a.eval s = v) (hx : a.eval x = .slice (some ⟨g, 0, none⟩) 1 c) (hlen : n + 1 ≤ 4194304)
    (hK : ∀ v' w', OwnF w0.heap.size w' v' (n + 1) (xs ++ [a0, a1]) → Below w0.heap.size w0 w' → wpList Try.prog ops Q rest (a.put o.dst v') w') : wpList Try.prog ops Q (o :: rest) a W := by
  obtain ⟨i0, hi, hz0, hz1, hz2⟩ := info_parts info_pt
  refine wpList_append_own _ hgd s x 25 ho w0.heap.size 38 i0 (.agg #[.int .i64 0, .int .i64 0]) 2 16 Try.underlying25 hi hz0 hz1 hz2 rfl (by decide) v _ _ hs hown ⟨g, 0, none⟩ 1 c ([a0, a1].map (Value.int .i64)) hx rfl ?_ ?_ ?_ ?_ hb.size ?_
  · intro j u hj
    match j, hj with
    | 0, hj => simp at hj; subst hj; simpa [Addr.add] using c0
    | 1, hj => simp at hj; subst hj; simpa [Addr.add] using c1
  · intro u hu; simp only [List.mem_map] at hu; obtain ⟨y, _, rfl⟩ := hu; rfl
  · unfold maxLen; omega
  · omega
  · intro v' w' h1 h2 _
    refine hK v' w' ?_ (hb.grown h2 hb.size (fun k hk => (hown.lt k hk).1))
    show w'.ownsRow w0.heap.size 38 2 v' (n + 1) ((xs ++ [a0, a1]).map (Value.int .i64))
    rw [List.map_append]; exact h1
set_option maxHeartbeats 8000000 in
theorem spec_Dual_yes (a : Option Addr) (m cap : Nat) (ps : List (Int × Int)) (w : World) (hp : isP ps = true) (hk : duB ps = true) (h : LV w a m ps) :
    Calls Try.prog 43 #[.slice a m cap] w (RetPC w (duL ps) (duC ps)) := by
  rw [(du_yes hp hk).1, (du_yes hp hk).2]
  have HLV := Lib.hid h
  have HCO : Hid (∀ t, Calls Try.prog 61 #[.slice (some ⟨w.heap.size, 0, none⟩) 1 1] (w.alloc (.cells #[.slice a m cap] t)) fun e w' => e = .returned (.int .i64 0) ∧ Below (w.alloc (.cells #[.slice a m cap] t)).heap.size (w.alloc (.cells #[.slice a m cap] t)) w') := fun t => by
    have := l09Code_one a m cap w.heap.size 1 ps (w.alloc (.cells #[.slice a m cap] t)) (HLV.out.below (by (repeat' (first | (with_reducible exact Below.refl _ _) | (with_reducible refine Below.alloc ?_ ?_ _) | (with_reducible refine Below.setCell ?_ ?_ _) | (with_reducible refine Below.drew ?_) | (with_reducible refine below_drewN ?_ _) | (with_reducible assumption) | (with_reducible refine below_after (by with_reducible assumption) ?_) | go_size)))) (by simp) (by go_cell)
    rwa [cdP_yes hp] at this
  have HLP := Lib.hid (h.poly hp)
  have HGD := Lib.hid (du_gcd hp hk)
  have HDP := Lib.hid (du_pos hk)
  have hkk := hk
  unfold duB at hkk
  simp only [Bool.and_eq_true, beq_iff_eq] at hkk
  have HN : Hid (∀ w1, Below w.heap.size w w1 → Calls Try.prog 69 #[.slice a m cap] w1 fun e w' => e = .returned (.int .i64 1) ∧ Below w1.heap.size w1 w') := fun w1 hb => by
    have := l09Inner_lp a m cap ps w1 (HLP.out.below hb)
    rwa [hkk.1] at this
  have HW : Hid (∀ w1, Below w.heap.size w w1 → Calls Try.prog 73 #[.slice a m cap, .agg #[.int .i64 0, .int .i64 0]] w1 fun e w' => e = .returned (.int .i64 1) ∧ Below w1.heap.size w1 w') := fun w1 hb => by
    have := l09Where_lp a m cap ps 0 0 w1 (HLP.out.below hb) (by decide)
    rwa [hkk.2] at this
  obtain ⟨g, rfl, hps, h3, hm, hg, hc, hin⟩ := HLP.out
  have HBD := Lib.hid (fun k => dvL_bd hin (by omega) k)
  have HPB := Lib.hid (fun k => inC_pl hin (show 0 < ps.length by omega) k)
  have HPT := Lib.hid (fun k => inC_pt hin (show 0 < ps.length by omega) k)
  have HPS := Lib.hid hps
  have HC := Lib.hid hc
  have HRW : Hid ((List.range ps.length).map (duP ps) = duK ps m) := by show _ = _; rw [hps]; rfl
  rw [HRW.out]
  clear hc hin hp hk hkk h HLP
  go_enter Try.func43, Try.ntmps43
  go_wp2_with (first | (go_at_call 61; refine (HCO.out _).mono ?_; rintro e wa ⟨rfl, ba⟩; have ba : Below w.heap.size w wa := (by (repeat' (first | (with_reducible exact Below.refl _ _) | (with_reducible refine Below.alloc ?_ ?_ _) | (with_reducible refine Below.setCell ?_ ?_ _) | (with_reducible refine Below.drew ?_) | (with_reducible refine below_drewN ?_ _) | (with_reducible assumption) | (with_reducible refine below_after (by with_reducible assumption) ?_) | go_size)))) | (go_at_call 73; refine (HW.out _ ba).mono ?_; rintro e wx ⟨rfl, bb⟩) | (go_at_call 69; refine (HN.out _ (below_after bb ba)).mono ?_; rintro e w1 ⟨rfl, bc⟩))
  have HB1 : Hid (Below w.heap.size w w1) := below_after bc (below_after bb ba)
  clear ba bb bc
  have hs1 := HB1.out.size
  go_loopw [5, 6] (fun t5 t6 wr => ∃ (j : Nat) (va : Option Addr) (vc : Nat), t5 = .slice va j vc ∧ t6 = .int .i64 (j : Int) ∧ j ≤ m ∧ OwnF w.heap.size wr (.slice va j vc) j (flat (duK ps j)) ∧ Below w.heap.size w wr) (fun _ t6 _ => m - (intOf t6).toNat)
  case atStart => exact ⟨0, some ⟨w1.heap.size, 0, none⟩, 0, rfl, rfl, by omega, World.ownsRow_lit w1 #[] 0 hs1 (by unfold maxLen; omega) rfl, HB1.out.alloc hs1 _⟩
  case round =>
    obtain ⟨j, va, vc, rfl, rfl, hj, hO, hB⟩ := hrel
    by_cases hjm : j < m
    · have hpl := HPS.out
      have HO := Lib.hid hO
      have HBr := Lib.hid hB
      have HSN := Lib.hid (duK_snoc ps j)
      have HDU : Hid (duP ps j = ((-((pl ps (j + 1)).2 - (pl ps j).2)).tdiv (dvL ps j), ((pl ps (j + 1)).1 - (pl ps j).1).tdiv (dvL ps j))) := rfl
      have hgd : dvL ps j = gcdI ((pl ps (j + 1)).1 - (pl ps j).1) ((pl ps (j + 1)).2 - (pl ps j).2) := HGD.out j (by omega)
      have hd1 : 1 ≤ dvL ps j := HDP.out j (by omega)
      obtain ⟨p0, p1⟩ := HPB.out j
      obtain ⟨p2, p3⟩ := HPB.out (j + 1)
      have HP1 := Lib.hid (HPT.out j)
      have HP2 := Lib.hid (HPT.out (j + 1))
      obtain ⟨X0, X1, hX⟩ : ∃ x y, pl ps j = (x, y) := ⟨_, _, rfl⟩
      obtain ⟨Y0, Y1, hY⟩ : ∃ x y, pl ps (j + 1) = (x, y) := ⟨_, _, rfl⟩
      have hk := Nat.mod_lt (j + 1) (show 0 < m by omega)
      have hqm : ((j : Int) + 1).tmod (m : Int) = (((j + 1) % m : Nat) : Int) := by rw [Int.tmod_eq_emod_of_nonneg (by omega)]; exact_mod_cast rfl
      obtain ⟨K, hK⟩ : ∃ K, (j + 1) % m = K := ⟨_, rfl⟩
      rw [hK] at hqm hk
      have HCW : Hid (∀ W, Below w.heap.size w W → W.cell? ⟨g, j * 2, none⟩ = some (.int .i64 X0) ∧ W.cell? ⟨g, j * 2 + 1, none⟩ = some (.int .i64 X1) ∧ W.cell? ⟨g, K * 2, none⟩ = some (.int .i64 Y0) ∧ W.cell? ⟨g, K * 2 + 1, none⟩ = some (.int .i64 Y1)) := by
        intro W hW
        have hc2 := ptCells_kept HC.out (hW.block g hg)
        have b0 := hc2 j (by omega)
        have b1 := hc2 K (by omega)
        have e0 : ps.getD j (0, 0) = (X0, X1) := by rw [← hX, pl_lt (by omega)]
        have e1 : ps.getD K (0, 0) = (Y0, Y1) := by rw [← hY]; unfold pl; rw [hpl, hK]
        rw [e0, Nat.zero_add] at b0
        rw [e1, Nat.zero_add] at b1
        exact ⟨b0.1, b0.2, b1.1, b1.2⟩
      rw [hX] at HP1 HDU hgd p0 p1
      rw [hY] at HP2 HDU hgd p2 p3
      dsimp only at HDU hgd p0 p1 p2 p3
      unfold Sml at p0 p1 p2 p3
      obtain ⟨D, hD⟩ : ∃ D, dvL ps j = D := ⟨_, rfl⟩
      rw [hD] at HDU hgd hd1
      have hpt : isPt (Y0 - X0, Y1 - X1) = true := by
        unfold isPt
        rw [Bool.and_eq_true]
        exact ⟨crd_iff.2 ⟨by simp only; omega, by simp only; omega⟩, crd_iff.2 ⟨by simp only; omega, by simp only; omega⟩⟩
      have hne : (Y0 - X0 == 0 && Y1 - X1 == 0) = false := by
        cases hq : (Y0 - X0 == 0 && Y1 - X1 == 0)
        · rfl
        · simp only [Bool.and_eq_true, beq_iff_eq] at hq
          rw [hq.1, hq.2] at hgd
          simp [gcdI] at hgd
          omega
      have r1 := tdiv_le (a := Y1 - X1) hd1
      have r2 := tdiv_le (a := Y0 - X0) hd1
      have HPL : Hid (∀ w, Calls Try.prog 80 #[.agg #[.int .i64 Y0, .int .i64 Y1], .agg #[.int .i64 X0, .int .i64 X1], .int .i64 (-1)] w fun e w' => e = .returned (.agg #[.int .i64 (Y0 - X0), .int .i64 (Y1 - X1)]) ∧ Below w.heap.size w w') := fun w => l01Plus_minus _ _ _ _ w (isPt_bn1 HP2.out) (isPt_bn2 HP2.out) (isPt_bn1 HP1.out) (isPt_bn2 HP1.out)
      obtain ⟨V, hV⟩ : ∃ V, (Y0 - X0).tdiv D = V := ⟨_, rfl⟩
      obtain ⟨U, hU⟩ : ∃ U, (Y1 - X1).tdiv D = U := ⟨_, rfl⟩
      rw [Int.neg_tdiv, hU, hV] at HDU
      rw [hU] at r1
      rw [hV] at r2
      have HPA : Hid (∀ w, Calls Try.prog 79 #[.agg #[.int .i64 (Y0 - X0), .int .i64 (Y1 - X1)]] w fun e w' => e = .returned (.agg #[.int .i64 V, .int .i64 U]) ∧ Below w.heap.size w w') := fun w => by
        have := l01Part_any (Y0 - X0) (Y1 - X1) w hpt hne
        unfold primP at this
        simp only at this
        rw [← hgd, hU, hV, show IntKind.i64.wrap V = V from by rw [IntKind.wrap_i64]; omega, show IntKind.i64.wrap U = U from by rw [IntKind.wrap_i64]; omega] at this
        exact this
      have qn : IntKind.i64.wrap (-U) = -U := by rw [IntKind.wrap_i64]; omega
      have q1 : (0 : Int) ≤ (j : Int) := by omega
      have q3 : (j : Int) < (m : Int) := by omega
      have q4 : (K : Int) < (m : Int) := by omega
      have q5 : (0 : Int) ≤ (K : Int) := by omega
      have q9 : ¬ m = 0 := by omega
      have qa : IntKind.i64.wrap ((j : Int) + 1) = (j : Int) + 1 := by rw [IntKind.wrap_i64]; omega
      obtain ⟨c0, c1, c2, c3⟩ := HCW.out wr hB
      have hlg := World.block_lt_of_cell? wr _ c0
      clear hX hY hK hD hV hU hgd hd1 r1 r2 hpt hne p0 p1 p2 p3 HP1 HP2 hO hB
      go_wp2_with fail
      obtain ⟨wb, hwb⟩ : ∃ wb, wb = wr.alloc (.cells #[.int .i64 X0, .int .i64 X1] 38) := ⟨_, rfl⟩
      rw [← hwb]
      have HBb : Hid (Below wr.heap.size wr wb) := by
        show Below wr.heap.size wr wb
        rw [hwb]; (repeat' (first | (with_reducible exact Below.refl _ _) | (with_reducible refine Below.alloc ?_ ?_ _) | (with_reducible refine Below.setCell ?_ ?_ _) | (with_reducible refine Below.drew ?_) | (with_reducible refine below_drewN ?_ _) | (with_reducible assumption) | (with_reducible refine below_after (by with_reducible assumption) ?_) | go_size))
      have HXb : Hid (Bk2 wb wr.heap.size X0 X1) := by show Bk2 wb wr.heap.size X0 X1; rw [hwb]; exact bk2_new wr X0 X1 _
      have HCL : Hid (∀ W, Below wb.heap.size wb W → W.cell? ⟨wr.heap.size, 0, none⟩ = some (.int .i64 X0) ∧ W.cell? ⟨wr.heap.size, 1, none⟩ = some (.int .i64 X1) ∧ W.cell? ⟨g, K * 2, none⟩ = some (.int .i64 Y0) ∧ W.cell? ⟨g, K * 2 + 1, none⟩ = some (.int .i64 Y1)) := fun W hW => by
        have a := HXb.out.below hW
        have b := HCW.out W (below_after hW (below_after HBb.out HBr.out))
        exact ⟨a.1.1, a.1.2, b.2.2.1, b.2.2.2⟩
      clear hwb c0 c1 c2 c3 hlg
      go_cut [8] (fun v8 wx => ∃ GS, v8 = .pointer (some ⟨GS, 0, none⟩) ∧ Bk2 wx GS V U ∧ Below wb.heap.size wb wx)
      case first =>
        refine wp_region_held_drew (S := fun W => Below wb.heap.size wb W) (by kernel_rfl) ?_ (fun hHeld => ?_); focus ((try dsimp only); exact (Below.refl _ _).drew)
        have hHeld : Below wb.heap.size wb _ := hHeld
        obtain ⟨wD, hwD⟩ : ∃ wD, wb.drew = wD := ⟨_, rfl⟩
        rw [hwD] at hHeld ⊢
        clear hwD
        (refine wpAnyH_take (i := 0) (v := ?_) rfl (by kernel_rfl) (by kernel_rfl) (by kernel_rfl) (fun _ _ _ h => h) (Or.inl ⟨rfl, ?_⟩) (by assumption) ?_; rotate_left; focus (intro W hSw; (try dsimp only at hSw); obtain ⟨i0, i1, i2, i3⟩ := HCL.out _ hSw; go_simp; try (with_reducible rfl))); (try simp only [Act.put, List.getElem_toArray, List.getElem_cons_succ, List.getElem_cons_zero, List.setIfInBounds_toArray, List.set_cons_zero, List.set_cons_succ])
        (refine wpAnyH_take (i := 1) (v := ?_) rfl (by kernel_rfl) (by kernel_rfl) (by kernel_rfl) (fun _ _ _ h => h) (Or.inl ⟨rfl, ?_⟩) (by assumption) ?_; rotate_left; focus (intro W hSw; (try dsimp only at hSw); obtain ⟨i0, i1, i2, i3⟩ := HCL.out _ hSw; go_simp; try (with_reducible rfl))); (try simp only [Act.put, List.getElem_toArray, List.getElem_cons_succ, List.getElem_cons_zero, List.setIfInBounds_toArray, List.set_cons_zero, List.set_cons_succ])
        (refine wpAnyH_take (i := 2) (v := ?_) rfl (by kernel_rfl) (by kernel_rfl) (by kernel_rfl) (fun _ _ _ h => h) (Or.inl ⟨rfl, ?_⟩) (by assumption) ?_; rotate_left; focus (intro W hSw; (try dsimp only at hSw); obtain ⟨i0, i1, i2, i3⟩ := HCL.out _ hSw; go_simp; try (with_reducible rfl))); (try simp only [Act.put, List.getElem_toArray, List.getElem_cons_succ, List.getElem_cons_zero, List.setIfInBounds_toArray, List.set_cons_zero, List.set_cons_succ])
        (refine wpAnyH_take (i := 3) (v := ?_) rfl (by kernel_rfl) (by kernel_rfl) (by kernel_rfl) (fun _ _ _ h => h) (Or.inl ⟨rfl, ?_⟩) (by assumption) ?_; rotate_left; focus (intro W hSw; (try dsimp only at hSw); obtain ⟨i0, i1, i2, i3⟩ := HCL.out _ hSw; go_simp; try (with_reducible rfl))); (try simp only [Act.put, List.getElem_toArray, List.getElem_cons_succ, List.getElem_cons_zero, List.setIfInBounds_toArray, List.set_cons_zero, List.set_cons_succ])
        (refine wpAnyH_take (i := 4) (v := ?_) rfl (by kernel_rfl) (by kernel_rfl) (by kernel_rfl) (fun _ _ _ h => h) (Or.inl ⟨rfl, ?_⟩) (by assumption) ?_; rotate_left; focus (intro W hSw; (try dsimp only at hSw); obtain ⟨i0, i1, i2, i3⟩ := HCL.out _ hSw; go_simp; try (with_reducible rfl))); (try simp only [Act.put, List.getElem_toArray, List.getElem_cons_succ, List.getElem_cons_zero, List.setIfInBounds_toArray, List.set_cons_zero, List.set_cons_succ])
        (refine wpAnyH_take (i := 5) (v := ?_) rfl (by kernel_rfl) (by kernel_rfl) (by kernel_rfl) (fun _ _ _ h => h) (Or.inl ⟨rfl, ?_⟩) (by assumption) ?_; rotate_left; focus (intro W hSw; (try dsimp only at hSw); obtain ⟨i0, i1, i2, i3⟩ := HCL.out _ hSw; go_simp; try (with_reducible rfl))); (try simp only [Act.put, List.getElem_toArray, List.getElem_cons_succ, List.getElem_cons_zero, List.setIfInBounds_toArray, List.set_cons_zero, List.set_cons_succ])
        (refine wpAnyH_take (i := 6) (v := ?_) rfl (by kernel_rfl) (by kernel_rfl) (by kernel_rfl) (fun _ _ _ h => h) (Or.inl ⟨rfl, ?_⟩) (by assumption) ?_; rotate_left; focus (intro W hSw; (try dsimp only at hSw); obtain ⟨i0, i1, i2, i3⟩ := HCL.out _ hSw; go_simp; try (with_reducible rfl))); (try simp only [Act.put, List.getElem_toArray, List.getElem_cons_succ, List.getElem_cons_zero, List.setIfInBounds_toArray, List.set_cons_zero, List.set_cons_succ])
        (refine wpAnyH_take (i := 7) (v := ?_) rfl (by kernel_rfl) (by kernel_rfl) (by kernel_rfl) (fun _ _ _ h => h) (Or.inl ⟨rfl, ?_⟩) (by assumption) ?_; rotate_left; focus (intro W hSw; (try dsimp only at hSw); obtain ⟨i0, i1, i2, i3⟩ := HCL.out _ hSw; go_simp; try (with_reducible rfl))); (try simp only [Act.put, List.getElem_toArray, List.getElem_cons_succ, List.getElem_cons_zero, List.setIfInBounds_toArray, List.set_cons_zero, List.set_cons_succ])
        (refine wpAnyH_take (i := 8) (v := ?_) rfl (by kernel_rfl) (by kernel_rfl) (by kernel_rfl) (fun _ _ _ h => h) (Or.inl ⟨rfl, ?_⟩) (by assumption) ?_; rotate_left; focus (intro W hSw; (try dsimp only at hSw); obtain ⟨i0, i1, i2, i3⟩ := HCL.out _ hSw; go_simp; try (with_reducible rfl))); (try simp only [Act.put, List.getElem_toArray, List.getElem_cons_succ, List.getElem_cons_zero, List.setIfInBounds_toArray, List.set_cons_zero, List.set_cons_succ])
        refine wpAnyH_ready (rs := [9, 11]) (by kernel_rfl) (by simp) ?_; refine AllReadyH.cons rfl (fun K hK => ?_) (AllReadyH.cons rfl (fun K hK => ?_) AllReadyH.nil)
        · skip
          go_simp; (go_at_call 80; refine (HPL.out _).mono ?_; rintro en yw0 ⟨rfl, hb2⟩); refine hK.out _ _ (below_after hb2 hHeld) (fun hHeld2 => ?_); clear hb2; (clear hHeld; rename _ => hHeld; clear hK K; have hHeld : Below wb.heap.size wb _ := hHeld); (try simp only [Act.put, List.getElem_toArray, List.getElem_cons_succ, List.getElem_cons_zero, List.setIfInBounds_toArray, List.set_cons_zero, List.set_cons_succ])
          refine wpAnyH_ready (rs := [10, 11]) (by kernel_rfl) (by simp) ?_; refine AllReadyH.cons rfl (fun K hK => ?_) (AllReadyH.cons rfl (fun K hK => ?_) AllReadyH.nil)
          · skip
            go_simp; (go_at_call 79; refine (HPA.out _).mono ?_; rintro en yw1 ⟨rfl, hb2⟩); refine hK.out _ _ (below_after hb2 hHeld) (fun hHeld2 => ?_); clear hb2; (clear hHeld; rename _ => hHeld; clear hK K; have hHeld : Below wb.heap.size wb _ := hHeld); (try simp only [Act.put, List.getElem_toArray, List.getElem_cons_succ, List.getElem_cons_zero, List.setIfInBounds_toArray, List.set_cons_zero, List.set_cons_succ])
            refine wpAnyH_ready (rs := [11]) (by kernel_rfl) (by simp) ?_; refine AllReadyH.cons rfl (fun K hK => ?_) AllReadyH.nil
            go_simp; obtain ⟨GS, hGS⟩ : ∃ G, yw1.heap.size = G := ⟨_, rfl⟩; have le_S : wb.heap.size ≤ GS := by rw [← hGS]; exact Below.size hHeld
            have HS : Hid (Bk2 (yw1.alloc (.cells #[.int .i64 0, .int .i64 0] 38)) GS 0 0) := by rw [← hGS]; exact bk2_new yw1 0 0 _
            refine hK.out _ _ (Below.alloc hHeld (Below.size hHeld) _) (fun hHeld2 => ?_); (clear hHeld; rename _ => hHeld; clear hK K; have hHeld : Below wb.heap.size wb _ := hHeld); (try simp only [Act.put, List.getElem_toArray, List.getElem_cons_succ, List.getElem_cons_zero, List.setIfInBounds_toArray, List.set_cons_zero, List.set_cons_succ])
            rw [hGS]; clear hGS; obtain ⟨yw2, hwx⟩ : ∃ wx, yw1.alloc (.cells #[.int .i64 0, .int .i64 0] 38) = wx := ⟨_, rfl⟩; rw [hwx] at HS hHeld ⊢; clear hwx
            refine wpAnyH_ready (rs := [12]) (by kernel_rfl) (by simp) ?_; refine AllReadyH.cons rfl (fun K hK => ?_) AllReadyH.nil
            obtain ⟨⟨a0, a1⟩, ⟨f0, f1⟩, az⟩ := HS.out; go_simp; clear a0 f0 a1 f1 az
            have HS := Lib.hid ((HS.out.set0 V).set1 U)
            refine hK.out _ _ (Below.setCell (Below.setCell hHeld (p := ⟨GS, 0, none⟩) le_S _) (p := ⟨GS, 1, none⟩) le_S _) (fun hHeld2 => ?_); (clear hHeld; rename _ => hHeld; clear hK K; have hHeld : Below wb.heap.size wb _ := hHeld); (try simp only [Act.put, List.getElem_toArray, List.getElem_cons_succ, List.getElem_cons_zero, List.setIfInBounds_toArray, List.set_cons_zero, List.set_cons_succ])
            obtain ⟨yw3, hwx⟩ : ∃ wx, (yw2.setCell ⟨GS, 0, none⟩ (.int .i64 V)).setCell ⟨GS, 1, none⟩ (.int .i64 U) = wx := ⟨_, rfl⟩; rw [hwx] at HS hHeld ⊢; clear hwx
            refine wpAnyH_done (by kernel_rfl) ?_ _
            go_wp2_with fail
            go_meet
            exact ⟨GS, rfl, HS.out, hHeld⟩
          · skip
            go_simp; obtain ⟨GS, hGS⟩ : ∃ G, yw0.heap.size = G := ⟨_, rfl⟩; have le_S : wb.heap.size ≤ GS := by rw [← hGS]; exact Below.size hHeld
            have HS : Hid (Bk2 (yw0.alloc (.cells #[.int .i64 0, .int .i64 0] 38)) GS 0 0) := by rw [← hGS]; exact bk2_new yw0 0 0 _
            refine hK.out _ _ (Below.alloc hHeld (Below.size hHeld) _) (fun hHeld2 => ?_); (clear hHeld; rename _ => hHeld; clear hK K; have hHeld : Below wb.heap.size wb _ := hHeld); (try simp only [Act.put, List.getElem_toArray, List.getElem_cons_succ, List.getElem_cons_zero, List.setIfInBounds_toArray, List.set_cons_zero, List.set_cons_succ])
            rw [hGS]; clear hGS; obtain ⟨yw1, hwx⟩ : ∃ wx, yw0.alloc (.cells #[.int .i64 0, .int .i64 0] 38) = wx := ⟨_, rfl⟩; rw [hwx] at HS hHeld ⊢; clear hwx
            refine wpAnyH_ready (rs := [10]) (by kernel_rfl) (by simp) ?_; refine AllReadyH.cons rfl (fun K hK => ?_) AllReadyH.nil
            go_simp; (go_at_call 79; refine (HPA.out _).mono ?_; rintro en yw2 ⟨rfl, hb2⟩); have HS := Lib.hid (HS.out.below hb2); refine hK.out _ _ (below_after hb2 hHeld) (fun hHeld2 => ?_); clear hb2; (clear hHeld; rename _ => hHeld; clear hK K; have hHeld : Below wb.heap.size wb _ := hHeld); (try simp only [Act.put, List.getElem_toArray, List.getElem_cons_succ, List.getElem_cons_zero, List.setIfInBounds_toArray, List.set_cons_zero, List.set_cons_succ])
            refine wpAnyH_ready (rs := [12]) (by kernel_rfl) (by simp) ?_; refine AllReadyH.cons rfl (fun K hK => ?_) AllReadyH.nil
            obtain ⟨⟨a0, a1⟩, ⟨f0, f1⟩, az⟩ := HS.out; go_simp; clear a0 f0 a1 f1 az
            have HS := Lib.hid ((HS.out.set0 V).set1 U)
            refine hK.out _ _ (Below.setCell (Below.setCell hHeld (p := ⟨GS, 0, none⟩) le_S _) (p := ⟨GS, 1, none⟩) le_S _) (fun hHeld2 => ?_); (clear hHeld; rename _ => hHeld; clear hK K; have hHeld : Below wb.heap.size wb _ := hHeld); (try simp only [Act.put, List.getElem_toArray, List.getElem_cons_succ, List.getElem_cons_zero, List.setIfInBounds_toArray, List.set_cons_zero, List.set_cons_succ])
            obtain ⟨yw3, hwx⟩ : ∃ wx, (yw2.setCell ⟨GS, 0, none⟩ (.int .i64 V)).setCell ⟨GS, 1, none⟩ (.int .i64 U) = wx := ⟨_, rfl⟩; rw [hwx] at HS hHeld ⊢; clear hwx
            refine wpAnyH_done (by kernel_rfl) ?_ _
            go_wp2_with fail
            go_meet
            exact ⟨GS, rfl, HS.out, hHeld⟩
        · skip
          go_simp; obtain ⟨GS, hGS⟩ : ∃ G, wD.heap.size = G := ⟨_, rfl⟩; have le_S : wb.heap.size ≤ GS := by rw [← hGS]; exact Below.size hHeld
          have HS : Hid (Bk2 (wD.alloc (.cells #[.int .i64 0, .int .i64 0] 38)) GS 0 0) := by rw [← hGS]; exact bk2_new wD 0 0 _
          refine hK.out _ _ (Below.alloc hHeld (Below.size hHeld) _) (fun hHeld2 => ?_); (clear hHeld; rename _ => hHeld; clear hK K; have hHeld : Below wb.heap.size wb _ := hHeld); (try simp only [Act.put, List.getElem_toArray, List.getElem_cons_succ, List.getElem_cons_zero, List.setIfInBounds_toArray, List.set_cons_zero, List.set_cons_succ])
          rw [hGS]; clear hGS; obtain ⟨yw0, hwx⟩ : ∃ wx, wD.alloc (.cells #[.int .i64 0, .int .i64 0] 38) = wx := ⟨_, rfl⟩; rw [hwx] at HS hHeld ⊢; clear hwx
          refine wpAnyH_ready (rs := [9]) (by kernel_rfl) (by simp) ?_; refine AllReadyH.cons rfl (fun K hK => ?_) AllReadyH.nil
          go_simp; (go_at_call 80; refine (HPL.out _).mono ?_; rintro en yw1 ⟨rfl, hb2⟩); have HS := Lib.hid (HS.out.below hb2); refine hK.out _ _ (below_after hb2 hHeld) (fun hHeld2 => ?_); clear hb2; (clear hHeld; rename _ => hHeld; clear hK K; have hHeld : Below wb.heap.size wb _ := hHeld); (try simp only [Act.put, List.getElem_toArray, List.getElem_cons_succ, List.getElem_cons_zero, List.setIfInBounds_toArray, List.set_cons_zero, List.set_cons_succ])
          refine wpAnyH_ready (rs := [10]) (by kernel_rfl) (by simp) ?_; refine AllReadyH.cons rfl (fun K hK => ?_) AllReadyH.nil
          go_simp; (go_at_call 79; refine (HPA.out _).mono ?_; rintro en yw2 ⟨rfl, hb2⟩); have HS := Lib.hid (HS.out.below hb2); refine hK.out _ _ (below_after hb2 hHeld) (fun hHeld2 => ?_); clear hb2; (clear hHeld; rename _ => hHeld; clear hK K; have hHeld : Below wb.heap.size wb _ := hHeld); (try simp only [Act.put, List.getElem_toArray, List.getElem_cons_succ, List.getElem_cons_zero, List.setIfInBounds_toArray, List.set_cons_zero, List.set_cons_succ])
          refine wpAnyH_ready (rs := [12]) (by kernel_rfl) (by simp) ?_; refine AllReadyH.cons rfl (fun K hK => ?_) AllReadyH.nil
          obtain ⟨⟨a0, a1⟩, ⟨f0, f1⟩, az⟩ := HS.out; go_simp; clear a0 f0 a1 f1 az
          have HS := Lib.hid ((HS.out.set0 V).set1 U)
          refine hK.out _ _ (Below.setCell (Below.setCell hHeld (p := ⟨GS, 0, none⟩) le_S _) (p := ⟨GS, 1, none⟩) le_S _) (fun hHeld2 => ?_); (clear hHeld; rename _ => hHeld; clear hK K; have hHeld : Below wb.heap.size wb _ := hHeld); (try simp only [Act.put, List.getElem_toArray, List.getElem_cons_succ, List.getElem_cons_zero, List.setIfInBounds_toArray, List.set_cons_zero, List.set_cons_succ])
          obtain ⟨yw3, hwx⟩ : ∃ wx, (yw2.setCell ⟨GS, 0, none⟩ (.int .i64 V)).setCell ⟨GS, 1, none⟩ (.int .i64 U) = wx := ⟨_, rfl⟩; rw [hwx] at HS hHeld ⊢; clear hwx
          refine wpAnyH_done (by kernel_rfl) ?_ _
          go_wp2_with fail
          go_meet
          exact ⟨GS, rfl, HS.out, hHeld⟩
      case rest =>
        obtain ⟨GS, rfl, hS, hBx⟩ := hcut
        obtain ⟨w3, rfl⟩ : ∃ w2, w2 = wc := ⟨_, rfl⟩
        have hO3 := Lib.hid (own_below (own_below HO.out HBb.out) hBx)
        have HB3 := Lib.hid (below_after hBx (below_after HBb.out HBr.out))
        have HS := Lib.hid hS
        obtain ⟨⟨s0, s1⟩, _, sl⟩ := HS.out
        have HJ := Lib.hid hjm
        clear hBx hS HCL HXb HBb hqm HO HBr
        have hsz3 := HB3.out.size
        have HBX := Lib.hid (HB3.out.alloc hsz3 (.cells #[.int .i64 (-U), .int .i64 V] 38))
        rw [HDU.out] at HSN
        go_wp2_with (at_builtin; refine wpList_app_F1 w (g := w3.heap.size) (a0 := -U) (a1 := V) rfl _ _ rfl (World.ownsRow.alloc hO3.out _) (by go_cell) (by go_cell) HBX.out rfl rfl (by omega) ?_; clear s0 s1 sl; intro v' w4 hO4 hB4; have hO4 := Lib.hid hO4; have hB4 := Lib.hid hB4)
        obtain ⟨va', vc', rfl, _⟩ := own_viewF hO4.out
        go_roundw
        case rel => exact ⟨j + 1, va', vc', rfl, by go_num, HJ.out, by rw [HSN.out]; exact hO4.out, hB4.out⟩
        case measure => have := HJ.out; simp [intOf]; omega
    · have hje : j = m := by omega
      subst hje
      have HO := Lib.hid hO
      have HBr := Lib.hid hB
      have q3 : ¬ (j : Int) < (j : Int) := by omega
      clear hO hB
      go_wp2_with fail
      refine bodyPost_ret (v := .tuple #[.slice va j vc, .int .i64 0]) (by simp (maxDischargeDepth := 8) [results, Try.results43, go_sem, *]) rfl ?_
      exact ⟨_, rfl, by rw [duK_len]; exact HO.out, HBr.out⟩
end Go.Proofs.Ytkfoelkkllpmdaa
