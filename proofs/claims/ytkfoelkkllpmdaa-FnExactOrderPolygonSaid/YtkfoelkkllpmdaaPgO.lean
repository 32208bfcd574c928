/-
  A polygon in order, in the model (own work).
-/
import Derived.Test.YtkfoelkkllpmdaaPgB
import Derived.Test.YtkfoelkkllpmdaaPgU
namespace Go.Proofs.Ytkfoelkkllpmdaa
open Go.ChangeShapes Go.WideShapes Go.ChangeAt Go.RowKit
set_option linter.unusedVariables false
set_option maxRecDepth 100000
set_option linter.unusedSimpArgs false
set_option maxRecDepth 100000

/-- Where the least corner is, looked for from the front. -/
def ixm (ps : List (Int × Int)) : Nat → Nat
  | 0 => 0
  | k + 1 => if lxlt (ps.getD k (0, 0)) (ps.getD (ixm ps k) (0, 0)) = true then k else ixm ps k
theorem ixm_lt {ps : List (Int × Int)} {n : Nat} (h : 1 ≤ n) : ∀ k, k ≤ n → ixm ps k < n
  | 0, _ => h
  | k + 1, hk => by
    unfold ixm
    split
    · omega
    · exact ixm_lt h k (by omega)
theorem ixm_succ (ps : List (Int × Int)) (k : Nat) : ixm ps (k + 1) = if lxlt (ps.getD k (0, 0)) (ps.getD (ixm ps k) (0, 0)) = true then k else ixm ps k := rfl
theorem wp_append_cells (B : Nat) {W : World} {o : Oper} {a : Act} {K : Act → World → Prop} {Q : Exit → Act → World → Prop} (s x : Operand)
    (ho : o.op = .call { callee := .builtin .append, args := #[s, x], argTypes := #[25, 25] })
    {v : Value} {xs ys : List (Int × Int)} {g off cap : Nat} (hown : OwnF B W v xs.length (flat xs)) (hpart : PtCells W g off ys) (hb : B ≤ W.heap.size) (hs : a.eval s = v) (hx : a.eval x = .slice (some ⟨g, off, none⟩) ys.length cap) (hlen : xs.length + ys.length ≤ 4194304)
    (hK : ∀ v' w', OwnF B w' v' (xs ++ ys).length (flat (xs ++ ys)) → W.grownBy w' v.ownBlock → K (a.put o.dst v') w') : Oper.wp Try.prog o a W K Q := by
  obtain ⟨i0, hi, hz0, hz1, hz2⟩ := info_parts info_pt
  refine wp_append_own W s x 25 ho B 38 i0 (.agg #[.int .i64 0, .int .i64 0]) 2 16 Try.underlying25 hi hz0 hz1 hz2 rfl (by decide) v _ _ hs hown ⟨g, off, none⟩ ys.length cap ((flat ys).map (Value.int .i64)) hx ?_ ?_ ?_ ?_ ?_ hb ?_
  · rw [List.length_map, flat_len]
  · intro j q hj
    have hx := ptCells_at hpart j q hj
    by_cases h0 : j = 0
    · subst h0; simpa [Addr.add] using hx
    · simpa [Addr.add, h0] using hx
  · intro u hu; simp only [List.mem_map] at hu; obtain ⟨y, _, rfl⟩ := hu; rfl
  · unfold maxLen; omega
  · omega
  · intro v' w' h1 h2 _
    refine hK v' w' ?_ h2
    show w'.ownsRow B 38 2 v' (xs ++ ys).length ((flat (xs ++ ys)).map (Value.int .i64))
    rw [List.length_append, flat_append, List.map_append]; exact h1
set_option maxHeartbeats 4000000 in
theorem l09Order_any (g n cap : Nat) (ps : List (Int × Int)) (w : World) (h1 : 1 ≤ n) (hn : ps.length = n) (hm : n ≤ 200000) (hcap : n ≤ cap) (hbig : cap ≤ maxLen) (hg : g < w.heap.size) (hc : PtCells w g 0 ps) :
    Calls Try.prog 62 #[.slice (some ⟨g, 0, none⟩) n cap] w (RetQ w (rotL ps (ixm ps n))) := by
  have HC := Lib.hid hc
  have HN := Lib.hid hn
  have HG := Lib.hid hg
  have HLT := Lib.hid (ixm_lt (ps := ps) h1)
  clear hc hn hg
  go_enter Try.func62, Try.ntmps62
  go_wp2_with fail
  go_loopw [3, 4] (fun t3 t4 wr => ∃ k : Nat, k ≤ n ∧ t3 = .int .i64 (ixm ps k) ∧ t4 = .int .i64 k ∧ Below w.heap.size w wr) (fun _ t4 _ => n - (intOf t4).toNat)
  case atStart => exact ⟨0, by omega, rfl, by go_num, Below.refl _ _⟩
  case round =>
    obtain ⟨k, hk, rfl, rfl, hbel⟩ := hrel
    have HBe := Lib.hid hbel
    have hsz := hbel.size
    have hJ := HLT.out k hk
    have HS := Lib.hid (ixm_succ ps k)
    by_cases hlt : k < n
    · have hcs := ptCells_kept HC.out (hbel.block g HG.out)
      have x2 := hcs k (by have := HN.out; omega)
      have y2 := hcs (ixm ps k) (by have := HN.out; omega)
      rw [Nat.zero_add] at x2 y2
      obtain ⟨J, hJe⟩ : ∃ J, ixm ps k = J := ⟨_, rfl⟩
      rw [hJe] at y2 hJ HS ⊢
      obtain ⟨X0, X1, hX⟩ : ∃ x y, ps.getD k (0, 0) = (x, y) := ⟨_, _, rfl⟩
      obtain ⟨Y0, Y1, hY⟩ : ∃ x y, ps.getD J (0, 0) = (x, y) := ⟨_, _, rfl⟩
      rw [hX] at x2
      rw [hY] at y2
      rw [hX, hY] at HS
      dsimp only at x2 y2
      obtain ⟨x0, x1⟩ := x2
      obtain ⟨y0, y1⟩ := y2
      have gk := World.block_lt_of_cell? wr _ x0
      have HCL : Hid (∀ W, Below wr.heap.size wr W → W.cell? ⟨g, k * 2, none⟩ = some (.int .i64 X0) ∧ W.cell? ⟨g, k * 2 + 1, none⟩ = some (.int .i64 X1) ∧ W.cell? ⟨g, J * 2, none⟩ = some (.int .i64 Y0) ∧ W.cell? ⟨g, J * 2 + 1, none⟩ = some (.int .i64 Y1)) := fun W hW =>
        ⟨(hW.cell (p := ⟨g, k * 2, none⟩) gk).trans x0, (hW.cell (p := ⟨g, k * 2 + 1, none⟩) gk).trans x1, (hW.cell (p := ⟨g, J * 2, none⟩) gk).trans y0, (hW.cell (p := ⟨g, J * 2 + 1, none⟩) gk).trans y1⟩
      obtain ⟨r, hr⟩ : ∃ r, lxlt (X0, X1) (Y0, Y1) = r := ⟨_, rfl⟩
      have HBF : Hid (∀ w, Calls Try.prog 105 #[.agg #[.int .i64 X0, .int .i64 X1], .agg #[.int .i64 Y0, .int .i64 Y1]] w fun e w' => e = .returned (.bool r) ∧ Below w.heap.size w w') := fun w => by have := l09Before_any X0 X1 Y0 Y1 w; rwa [hr] at this
      rw [hr] at HS
      have q3 : (0 : Int) ≤ (k : Int) := by omega
      have q4 : (k : Int) < (n : Int) := by omega
      have q5 : (0 : Int) ≤ (J : Int) := by omega
      have q6 : (J : Int) < (n : Int) := by omega
      clear hr hbel x0 x1 y0 y1 hX hY hcs hJe
      go_wp2_with fail
      go_cut [19] (fun v wx => v = .bool r ∧ Below wr.heap.size wr wx)
      case first =>
        refine wp_region_held_drew (S := fun W => Below wr.heap.size wr W) (by kernel_rfl) ?_ (fun hHeld => ?_); focus ((try dsimp only); exact (Below.refl _ _).drew)
        have hHeld : Below wr.heap.size wr _ := hHeld
        obtain ⟨wD, hwD⟩ : ∃ wD, wr.drew = wD := ⟨_, rfl⟩
        rw [hwD] at hHeld ⊢
        clear hwD
        (refine wpAnyH_take (i := 0) (v := ?_) rfl (by kernel_rfl) (by kernel_rfl) (by kernel_rfl) (fun _ _ _ h => h) (Or.inl ⟨rfl, ?_⟩) (by assumption) ?_; rotate_left; focus (intro W hSw; (try dsimp only at hSw); obtain ⟨i0, i1, i2, i3⟩ := HCL.out _ hSw; go_simp; try (with_reducible rfl))); (try simp only [Act.put, List.getElem_toArray, List.getElem_cons_succ, List.getElem_cons_zero, List.setIfInBounds_toArray, List.set_cons_zero, List.set_cons_succ])
        (refine wpAnyH_take (i := 1) (v := ?_) rfl (by kernel_rfl) (by kernel_rfl) (by kernel_rfl) (fun _ _ _ h => h) (Or.inl ⟨rfl, ?_⟩) (by assumption) ?_; rotate_left; focus (intro W hSw; (try dsimp only at hSw); obtain ⟨i0, i1, i2, i3⟩ := HCL.out _ hSw; go_simp; try (with_reducible rfl))); (try simp only [Act.put, List.getElem_toArray, List.getElem_cons_succ, List.getElem_cons_zero, List.setIfInBounds_toArray, List.set_cons_zero, List.set_cons_succ])
        (refine wpAnyH_take (i := 2) (v := ?_) rfl (by kernel_rfl) (by kernel_rfl) (by kernel_rfl) (fun _ _ _ h => h) (Or.inl ⟨rfl, ?_⟩) (by assumption) ?_; rotate_left; focus (intro W hSw; (try dsimp only at hSw); obtain ⟨i0, i1, i2, i3⟩ := HCL.out _ hSw; go_simp; try (with_reducible rfl))); (try simp only [Act.put, List.getElem_toArray, List.getElem_cons_succ, List.getElem_cons_zero, List.setIfInBounds_toArray, List.set_cons_zero, List.set_cons_succ])
        (refine wpAnyH_take (i := 3) (v := ?_) rfl (by kernel_rfl) (by kernel_rfl) (by kernel_rfl) (fun _ _ _ h => h) (Or.inl ⟨rfl, ?_⟩) (by assumption) ?_; rotate_left; focus (intro W hSw; (try dsimp only at hSw); obtain ⟨i0, i1, i2, i3⟩ := HCL.out _ hSw; go_simp; try (with_reducible rfl))); (try simp only [Act.put, List.getElem_toArray, List.getElem_cons_succ, List.getElem_cons_zero, List.setIfInBounds_toArray, List.set_cons_zero, List.set_cons_succ])
        (refine wpAnyH_take (i := 4) (v := ?_) rfl (by kernel_rfl) (by kernel_rfl) (by kernel_rfl) (fun _ _ _ h => h) (Or.inl ⟨rfl, ?_⟩) (by assumption) ?_; rotate_left; focus (intro W hSw; (try dsimp only at hSw); obtain ⟨i0, i1, i2, i3⟩ := HCL.out _ hSw; go_simp; try (with_reducible rfl))); (try simp only [Act.put, List.getElem_toArray, List.getElem_cons_succ, List.getElem_cons_zero, List.setIfInBounds_toArray, List.set_cons_zero, List.set_cons_succ])
        (refine wpAnyH_take (i := 5) (v := ?_) rfl (by kernel_rfl) (by kernel_rfl) (by kernel_rfl) (fun _ _ _ h => h) (Or.inl ⟨rfl, ?_⟩) (by assumption) ?_; rotate_left; focus (intro W hSw; (try dsimp only at hSw); obtain ⟨i0, i1, i2, i3⟩ := HCL.out _ hSw; go_simp; try (with_reducible rfl))); (try simp only [Act.put, List.getElem_toArray, List.getElem_cons_succ, List.getElem_cons_zero, List.setIfInBounds_toArray, List.set_cons_zero, List.set_cons_succ])
        (refine wpAnyH_take (i := 6) (v := ?_) rfl (by kernel_rfl) (by kernel_rfl) (by kernel_rfl) (fun _ _ _ h => h) (Or.inl ⟨rfl, ?_⟩) (by assumption) ?_; rotate_left; focus (intro W hSw; (try dsimp only at hSw); obtain ⟨i0, i1, i2, i3⟩ := HCL.out _ hSw; go_simp; try (with_reducible rfl))); (try simp only [Act.put, List.getElem_toArray, List.getElem_cons_succ, List.getElem_cons_zero, List.setIfInBounds_toArray, List.set_cons_zero, List.set_cons_succ])
        (refine wpAnyH_take (i := 7) (v := ?_) rfl (by kernel_rfl) (by kernel_rfl) (by kernel_rfl) (fun _ _ _ h => h) (Or.inl ⟨rfl, ?_⟩) (by assumption) ?_; rotate_left; focus (intro W hSw; (try dsimp only at hSw); obtain ⟨i0, i1, i2, i3⟩ := HCL.out _ hSw; go_simp; try (with_reducible rfl))); (try simp only [Act.put, List.getElem_toArray, List.getElem_cons_succ, List.getElem_cons_zero, List.setIfInBounds_toArray, List.set_cons_zero, List.set_cons_succ])
        refine wpAnyH_ready (rs := [8]) (by kernel_rfl) (by simp) ?_; refine AllReadyH.cons rfl (fun K hK => ?_) AllReadyH.nil
        go_simp; (go_at_call 105; refine (HBF.out _).mono ?_; rintro en yw0 ⟨rfl, hb2⟩); refine hK.out _ _ (below_after hb2 hHeld) (fun hHeld2 => ?_); clear hb2; (clear hHeld; rename _ => hHeld; clear hK K; have hHeld : Below wr.heap.size wr _ := hHeld); (try simp only [Act.put, List.getElem_toArray, List.getElem_cons_succ, List.getElem_cons_zero, List.setIfInBounds_toArray, List.set_cons_zero, List.set_cons_succ])
        refine wpAnyH_done (by kernel_rfl) ?_ _
        go_wp2_with fail
        go_meet
        exact ⟨rfl, hHeld⟩
      case rest =>
        obtain ⟨rfl, hBx⟩ := hcut
        obtain ⟨w3, rfl⟩ : ∃ w2, w2 = wc := ⟨_, rfl⟩
        have HBe3 := Lib.hid (below_after hBx HBe.out)
        clear hBx HBe HCL HBF
        cases r
        · have HS2 : Hid (ixm ps (k + 1) = J) := HS.out
          clear HS
          go_wp2_with fail
          go_roundw
          case rel => exact ⟨k + 1, by omega, by rw [HS2.out], by go_num, HBe3.out⟩
          case measure => simp [intOf]; omega
        · have HS2 : Hid (ixm ps (k + 1) = k) := HS.out
          clear HS
          go_wp2_with fail
          go_roundw
          case rel => exact ⟨k + 1, by omega, by rw [HS2.out], by go_num, HBe3.out⟩
          case measure => simp [intOf]; omega
    · have hkn : n = k := by omega
      subst hkn
      obtain ⟨J, hJe⟩ : ∃ J, ixm ps n = J := ⟨_, rfl⟩
      have HJE := Lib.hid hJe
      rw [hJe] at hJ ⊢
      have HA : Hid (∀ W, Below w.heap.size w W → PtCells W g (J * 2) (ps.drop J) ∧ PtCells W g 0 (ps.take J)) := fun W hW => by
        have := ptCells_kept HC.out (hW.block g HG.out)
        exact ⟨ptCells_drop this J, ptCells_take this J⟩
      have HLA : Hid ((ps.drop J).length = n - J) := by show _ = _; rw [List.length_drop]; have := HN.out; omega
      have HLB : Hid ((ps.take J).length = J) := by show _ = _; rw [List.length_take]; have := HN.out; omega
      have q3 : ¬ (n : Int) < (n : Int) := by omega
      have q0 : (0 : Int) ≤ (J : Int) := by omega
      have q1 : (J : Int) ≤ (n : Int) := by omega
      have q2 : (J : Int) ≤ (cap : Int) := by omega
      have q8 : (n : Int) ≤ (cap : Int) := by omega
      have q4 : J ≤ n := by omega
      have q5 : J ≤ cap := by omega
      have q6 : ((J : Int)).toNat = J := by omega
      have q7 : ¬ cap = J := by omega
      obtain ⟨wo, rfl⟩ : ∃ x, x = wr := ⟨_, rfl⟩
      clear hJe hbel HS hk
      go_wp2_with fail
      refine wp_region_held_drew (S := fun W => Below w.heap.size w W) (by kernel_rfl) ?_ (fun hHeld => ?_); focus ((try dsimp only); exact HBe.out.drew)
      have hHeld : Below w.heap.size w _ := hHeld
      obtain ⟨wD, hwD⟩ : ∃ wD, wo.drew = wD := ⟨_, rfl⟩
      rw [hwD] at hHeld ⊢
      clear hwD
      (refine wpAnyH_take (i := 1) (v := ?_) rfl (by kernel_rfl) (by kernel_rfl) (by kernel_rfl) (fun _ _ _ h => h) (Or.inl ⟨rfl, ?_⟩) (by assumption) ?_; rotate_left; focus (intro w hSw; (try dsimp only at hSw); go_simp; try (with_reducible rfl))); (try simp only [Act.put, List.getElem_toArray, List.getElem_cons_succ, List.getElem_cons_zero, List.setIfInBounds_toArray, List.set_cons_zero, List.set_cons_succ])
      (refine wpAnyH_take (i := 2) (v := ?_) rfl (by kernel_rfl) (by kernel_rfl) (by kernel_rfl) (fun _ _ _ h => h) (Or.inl ⟨rfl, ?_⟩) (by assumption) ?_; rotate_left; focus (intro w hSw; (try dsimp only at hSw); go_simp; try (with_reducible rfl))); (try simp only [Act.put, List.getElem_toArray, List.getElem_cons_succ, List.getElem_cons_zero, List.setIfInBounds_toArray, List.set_cons_zero, List.set_cons_succ])
      (refine wpAnyH_take (i := 3) (v := ?_) rfl (by kernel_rfl) (by kernel_rfl) (by kernel_rfl) (fun _ _ _ h => h) (Or.inl ⟨rfl, ?_⟩) (by assumption) ?_; rotate_left; focus (intro w hSw; (try dsimp only at hSw); go_simp; try (with_reducible rfl))); (try simp only [Act.put, List.getElem_toArray, List.getElem_cons_succ, List.getElem_cons_zero, List.setIfInBounds_toArray, List.set_cons_zero, List.set_cons_succ])
      (refine wpAnyH_take (i := 5) (v := ?_) rfl (by kernel_rfl) (by kernel_rfl) (by kernel_rfl) (fun _ _ _ h => h) (Or.inl ⟨rfl, ?_⟩) (by assumption) ?_; rotate_left; focus (intro w hSw; (try dsimp only at hSw); go_simp; try (with_reducible rfl))); (try simp only [Act.put, List.getElem_toArray, List.getElem_cons_succ, List.getElem_cons_zero, List.setIfInBounds_toArray, List.set_cons_zero, List.set_cons_succ])
      (refine wpAnyH_take (i := 6) (v := ?_) rfl (by kernel_rfl) (by kernel_rfl) (by kernel_rfl) (fun _ _ _ h => h) (Or.inl ⟨rfl, ?_⟩) (by assumption) ?_; rotate_left; focus (intro w hSw; (try dsimp only at hSw); go_simp; try (with_reducible rfl))); (try simp only [Act.put, List.getElem_toArray, List.getElem_cons_succ, List.getElem_cons_zero, List.setIfInBounds_toArray, List.set_cons_zero, List.set_cons_succ])
      (refine wpAnyH_take (i := 7) (v := ?_) rfl (by kernel_rfl) (by kernel_rfl) (by kernel_rfl) (fun _ _ _ h => h) (Or.inl ⟨rfl, ?_⟩) (by assumption) ?_; rotate_left; focus (intro w hSw; (try dsimp only at hSw); go_simp; try (with_reducible rfl))); (try simp only [Act.put, List.getElem_toArray, List.getElem_cons_succ, List.getElem_cons_zero, List.setIfInBounds_toArray, List.set_cons_zero, List.set_cons_succ])
      refine wpAnyH_ready (rs := [0]) (by kernel_rfl) (by simp) ?_; refine AllReadyH.cons rfl (fun K hK => ?_) AllReadyH.nil
      go_simp
      have HO : Hid (OwnF w.heap.size (wD.alloc (.cells #[] 38)) (.slice (some ⟨wD.heap.size, 0, none⟩) 0 0) ([] : List (Int × Int)).length (flat [])) := World.ownsRow_lit wD #[] 0 (Below.size hHeld) (by unfold maxLen; omega) rfl
      refine hK.out _ _ (Below.alloc hHeld (Below.size hHeld) _) (fun hHeld2 => ?_); (clear hHeld; rename _ => hHeld; clear hK K; have hHeld : Below w.heap.size w _ := hHeld); (try simp only [Act.put, List.getElem_toArray, List.getElem_cons_succ, List.getElem_cons_zero, List.setIfInBounds_toArray, List.set_cons_zero, List.set_cons_succ])
      refine wpAnyH_ready (rs := [4]) (by kernel_rfl) (by simp) ?_; refine AllReadyH.cons rfl (fun K hK => ?_) AllReadyH.nil
      refine wp_append_cells w.heap.size _ _ rfl HO.out (HA.out _ hHeld).1 (Below.size hHeld) rfl (by rw [HLA.out]; rfl) (by rw [HLA.out]; simp; omega) ?_
      intro v' w6 hO6 hg6
      have hB6 := Below.grown hHeld hg6 (Below.size hHeld) (fun k hk => (World.ownsRow.lt HO.out k hk).1)
      have HO6 := Lib.hid hO6
      refine hK.out _ _ hB6 (fun hHeld2 => ?_); (clear hHeld; rename _ => hHeld; clear hK K; have hHeld : Below w.heap.size w _ := hHeld); (try simp only [Act.put, List.getElem_toArray, List.getElem_cons_succ, List.getElem_cons_zero, List.setIfInBounds_toArray, List.set_cons_zero, List.set_cons_succ])
      refine wpAnyH_ready (rs := [8]) (by kernel_rfl) (by simp) ?_; refine AllReadyH.cons rfl (fun K hK => ?_) AllReadyH.nil
      refine wp_append_cells w.heap.size _ _ rfl HO6.out (HA.out _ hHeld).2 (Below.size hHeld) rfl (by rw [HLB.out]; rfl) (by rw [List.nil_append, HLA.out, HLB.out]; omega) ?_
      intro v2 w7 hO7 hg7
      have hB7 := Below.grown hHeld hg7 (Below.size hHeld) (fun k hk => (World.ownsRow.lt HO6.out k hk).1)
      have HO7 := Lib.hid hO7
      refine hK.out _ _ hB7 (fun hHeld2 => ?_); (clear hHeld; rename _ => hHeld; clear hK K; have hHeld : Below w.heap.size w _ := hHeld); (try simp only [Act.put, List.getElem_toArray, List.getElem_cons_succ, List.getElem_cons_zero, List.setIfInBounds_toArray, List.set_cons_zero, List.set_cons_succ])
      (refine wpAnyH_take (i := 9) (v := ?_) rfl (by kernel_rfl) (by kernel_rfl) (by kernel_rfl) (fun _ _ _ h => h) (Or.inl ⟨rfl, ?_⟩) (by assumption) ?_; rotate_left; focus (intro w hSw; (try dsimp only at hSw); go_simp; try (with_reducible rfl))); (try simp only [Act.put, List.getElem_toArray, List.getElem_cons_succ, List.getElem_cons_zero, List.setIfInBounds_toArray, List.set_cons_zero, List.set_cons_succ])
      refine wpAnyH_done (by kernel_rfl) ?_ _
      clear hB6 hB7 hg6 hg7 hO6 hO7
      go_wp2_with fail
      go_ret
      rw [HJE.out]
      exact ⟨_, rfl, HO7.out, hHeld⟩
end Go.Proofs.Ytkfoelkkllpmdaa
