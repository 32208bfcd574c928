/-
  A list read round from a corner on: slices.Concat of its two parts, cornersFrom (own work).
-/
import Derived.Test.YtmjhejmkmdgikaaCatP
import Derived.Test.YtmjhejmkmdgikaaPgK
namespace Go.Proofs.Ytmjhejmkmdgikaa
open Go.ChangeShapes Go.WideShapes Go.ChangeAt Go.RowKit
set_option linter.unusedVariables false
set_option maxRecDepth 100000
set_option linter.unusedSimpArgs false
set_option maxRecDepth 100000

theorem ptCells_at {W : World} {g off : Nat} {ys : List (Int × Int)} (h : PtCells W g off ys) : ∀ j q, ((flat ys).map (Value.int .i64))[j]? = some q → W.cell? ⟨g, off + j, none⟩ = some q := by
  intro j q hj
  have hlt : j < ys.length * 2 := by
    have := (List.getElem?_eq_some_iff.1 hj).1
    rw [List.length_map, flat_len] at this
    exact this
  obtain ⟨a, b⟩ := h (j / 2) (by omega)
  obtain ⟨f0, f1⟩ := flat_at ys (j / 2)
  have hj2 : (flat ys)[j]? = some ((flat ys).getD j 0) := by
    rw [List.getD_eq_getElem?_getD, List.getElem?_eq_getElem (by rw [flat_len]; exact hlt)]; rfl
  rw [List.getElem?_map, hj2] at hj
  simp only [Option.map_some, Option.some.injEq] at hj
  subst hj
  by_cases hm : j % 2 = 0
  · have e : j = j / 2 * 2 := by omega
    rw [← f0, ← e] at a
    exact a
  · have e : j = j / 2 * 2 + 1 := by omega
    rw [← f1, ← e] at b
    rw [Nat.add_assoc, ← e] at b
    exact b
/-- A part of a list is appended. -/
theorem wpList_append_cells (w0 : World) {W : World} {ops : Array Oper} {rest : List Oper} {o : Oper} {a : Act} {Q : Exit → Act → World → Prop} (hgd : o.guard = none) (s x : Operand)
    (ho : o.op = .call { callee := .builtin .append, args := #[s, x], argTypes := #[25, 25] })
    {v : Value} {xs ys : List (Int × Int)} {g off cap : Nat} (hown : OwnF w0.heap.size W v xs.length (flat xs)) (hpart : PtCells W g off ys) (hb : Below w0.heap.size w0 W) (hs : a.eval s = v) (hx : a.eval x = .slice (some ⟨g, off, none⟩) ys.length cap) (hlen : xs.length + ys.length ≤ 4194304)
    (hK : ∀ v' w', OwnF w0.heap.size w' v' (xs ++ ys).length (flat (xs ++ ys)) → Below w0.heap.size w0 w' → wpList Try.prog ops Q rest (a.put o.dst v') w') : wpList Try.prog ops Q (o :: rest) a W := by
  obtain ⟨i0, hi, hz0, hz1, hz2⟩ := info_parts info_pt
  refine wpList_append_own _ hgd s x 25 ho w0.heap.size 32 i0 (.agg #[.int .i64 0, .int .i64 0]) 2 16 Try.underlying25 hi hz0 hz1 hz2 rfl (by decide) v _ _ hs hown ⟨g, off, none⟩ ys.length cap ((flat ys).map (Value.int .i64)) hx ?_ ?_ ?_ ?_ ?_ hb.size ?_
  · rw [List.length_map, flat_len]
  · intro j q hj
    have hx := ptCells_at hpart j q hj
    by_cases h0 : j = 0
    · subst h0; simpa [Addr.add] using hx
    · simpa [Addr.add, h0] using hx
  · intro u hu; simp only [List.mem_map] at hu; obtain ⟨y, _, rfl⟩ := hu; rfl
  · unfold maxLen; omega
  · omega
  · intro v' w' h1 h2 _
    refine hK v' w' ?_ (hb.grown h2 hb.size (fun k hk => (hown.lt k hk).1))
    show w'.ownsRow w0.heap.size 32 2 v' (xs ++ ys).length ((flat (xs ++ ys)).map (Value.int .i64))
    rw [List.length_append, flat_append, List.map_append]; exact h1
set_option maxHeartbeats 4000000 in
theorem concatP2_any (q cp g o0 o1 c0 c1 : Nat) (x0 x1 : List (Int × Int)) (w : World) (hq : q < w.heap.size) (hg : g < w.heap.size) (e0 : w.cell? ⟨q, 0, none⟩ = some (.slice (some ⟨g, o0, none⟩) x0.length c0)) (e1 : w.cell? ⟨q, 1, none⟩ = some (.slice (some ⟨g, o1, none⟩) x1.length c1))
    (s0 : PtCells w g o0 x0) (s1 : PtCells w g o1 x1) (l0 : x0.length ≤ 200000) (l1 : x1.length ≤ 200000) (l3 : 1 ≤ x0.length + x1.length) :
    Calls Try.prog 147 #[.slice (some ⟨q, 0, none⟩) 2 cp] w (RetQ w (x0 ++ x1)) := by
  have keep : ∀ (W : World) (o : Nat) (x : List (Int × Int)), Below w.heap.size w W → PtCells w g o x → PtCells W g o x := fun W o x hW h i hi => by
    obtain ⟨a, b⟩ := h i hi
    exact ⟨(hW.cell (p := ⟨g, o + i * 2, none⟩) hg).trans a, (hW.cell (p := ⟨g, o + i * 2 + 1, none⟩) hg).trans b⟩
  have S : Hid (∀ W, Below w.heap.size w W → PtCells W g o0 x0 ∧ PtCells W g o1 x1) := fun W hW => ⟨keep W _ _ hW s0, keep W _ _ hW s1⟩
  have HQ : Hid (∀ W, Below w.heap.size w W → W.cell? ⟨q, 0, none⟩ = some (.slice (some ⟨g, o0, none⟩) x0.length c0) ∧ W.cell? ⟨q, 1, none⟩ = some (.slice (some ⟨g, o1, none⟩) x1.length c1)) := by
    intro W hW
    exact ⟨(hW.cell (p := ⟨q, 0, none⟩) hq).trans e0, (hW.cell (p := ⟨q, 1, none⟩) hq).trans e1⟩
  have k0 : (0 : Int) ≤ x0.length := by omega
  have k1 : (0 : Int) ≤ x1.length := by omega
  have m0 : (x0.length : Int) ≤ 200000 := by omega
  have m1 : (x1.length : Int) ≤ 200000 := by omega
  have HG : Hid (∀ W, Calls Try.prog 166 #[.slice none 0 0, .int .i64 ((x0.length : Int) + x1.length)] W (RetQ W [])) := by
    intro W
    have := growP_nil (x0.length + x1.length) (by omega) (by omega) W
    simpa using this
  clear s0 s1 keep
  go_enter Try.func147, Try.ntmps147
  go_wp2
  refine wp_loop_rounds 4 ?_
  rw [rounds_succ]
  go_wp2
  (try rw [rounds_succ])
  go_wp2
  (try rw [rounds_succ])
  go_wp2_with (first | (go_at_call 166; refine (HG.out _).mono ?_; rintro e w1 ⟨v, rfl, ho, hb⟩; have HO := Lib.hid ho; have HB := Lib.hid hb; clear e0 e1; obtain ⟨e0, e1⟩ := HQ.out _ hb; clear ho hb))
  refine wp_loop_rounds 4 ?_
  rw [rounds_succ]
  go_wp2_with (at_builtin; refine wpList_append_cells w rfl _ _ rfl HO.out (S.out _ HB.out).1 HB.out rfl rfl (by simp only [List.length_append, List.length_nil, List.nil_append]; omega) ?_; clear HO HB e0 e1; intro v' w1 ho hb; have HO := Lib.hid ho; have HB := Lib.hid hb; obtain ⟨e0, e1⟩ := HQ.out _ hb; clear ho hb)
  (try rw [rounds_succ])
  go_wp2_with (at_builtin; refine wpList_append_cells w rfl _ _ rfl HO.out (S.out _ HB.out).2 HB.out rfl rfl (by simp only [List.length_append, List.length_nil, List.nil_append]; omega) ?_; clear HO HB e0 e1; intro v' w1 ho hb; have HO := Lib.hid ho; have HB := Lib.hid hb; obtain ⟨e0, e1⟩ := HQ.out _ hb; clear ho hb)
  (try rw [rounds_succ])
  go_wp2
  go_ret
  have ho := HO.out
  rw [List.nil_append] at ho
  exact ⟨_, rfl, ho, HB.out⟩
def rotL (ps : List (Int × Int)) (i : Nat) : List (Int × Int) := ps.drop i ++ ps.take i
theorem rotL_len (ps : List (Int × Int)) {i : Nat} (h : i ≤ ps.length) : (rotL ps i).length = ps.length := by simp [rotL]; omega
theorem ptCells_drop {W : World} {g : Nat} {ps : List (Int × Int)} (h : PtCells W g 0 ps) (i : Nat) : PtCells W g (i * 2) (ps.drop i) := by
  intro k hk
  rw [List.length_drop] at hk
  have := h (i + k) (by omega)
  rw [Nat.zero_add, Nat.add_mul] at this
  have e : (ps.drop i).getD k (0, 0) = ps.getD (i + k) (0, 0) := by simp [List.getD, List.getElem?_drop]
  rw [e]; exact this
theorem ptCells_take {W : World} {g : Nat} {ps : List (Int × Int)} (h : PtCells W g 0 ps) (i : Nat) : PtCells W g 0 (ps.take i) := by
  intro k hk
  rw [List.length_take] at hk
  have := h k (by omega)
  have e : (ps.take i).getD k (0, 0) = ps.getD k (0, 0) := by simp [List.getD, List.getElem?_take, show k < i from by omega]
  rw [e]; exact this
set_option maxHeartbeats 4000000 in
theorem cornersFrom_any (g n cap i : Nat) (ps : List (Int × Int)) (w : World) (hn : ps.length = n) (hm : n ≤ 200000) (hi : i < n) (hcap : n ≤ cap) (hbig : cap ≤ maxLen) (hg : g < w.heap.size) (hc : PtCells w g 0 ps) :
    Calls Try.prog 136 #[.slice (some ⟨g, 0, none⟩) n cap, .int .i64 i] w (RetQ w (rotL ps i)) := by
  have HA : Hid (PtCells w g (i * 2) (ps.drop i)) := ptCells_drop hc i
  have HB : Hid (PtCells w g 0 (ps.take i)) := ptCells_take hc i
  have HLA : Hid ((ps.drop i).length = n - i) := by show _ = _; rw [List.length_drop]; omega
  have HLB : Hid ((ps.take i).length = i) := by show _ = _; rw [List.length_take]; omega
  have q0 : (0 : Int) ≤ (i : Int) := by omega
  have q1 : (i : Int) ≤ (n : Int) := by omega
  have q2 : (i : Int) ≤ (cap : Int) := by omega
  have q3 : (n : Int) ≤ (cap : Int) := by omega
  have q4 : i ≤ n := by omega
  have q5 : i ≤ cap := by omega
  have q6 : ((i : Int)).toNat = i := by omega
  have q7 : ¬ cap = i := by omega
  clear hn hc
  go_enter Try.func136, Try.ntmps136
  go_wp2_with fail
  refine wp_region_held_drew (S := fun W => Below w.heap.size w W) (by kernel_rfl) ?_ (fun hHeld => ?_); focus ((try dsimp only); exact (Below.refl _ _).drew)
  have hHeld : Below w.heap.size w _ := hHeld
  obtain ⟨wD, hwD⟩ : ∃ wD, w.drew = wD := ⟨_, rfl⟩
  rw [hwD] at hHeld ⊢
  clear hwD
  (refine wpAnyH_take (i := 0) (v := ?_) rfl (by kernel_rfl) (by kernel_rfl) (by kernel_rfl) (fun _ _ _ h => h) (Or.inl ⟨rfl, ?_⟩) (by assumption) ?_; rotate_left; focus (intro w hSw; (try dsimp only at hSw); go_simp; try (with_reducible rfl))); (try simp only [Act.put, List.getElem_toArray, List.getElem_cons_succ, List.getElem_cons_zero, List.setIfInBounds_toArray, List.set_cons_zero, List.set_cons_succ])
  (refine wpAnyH_take (i := 1) (v := ?_) rfl (by kernel_rfl) (by kernel_rfl) (by kernel_rfl) (fun _ _ _ h => h) (Or.inl ⟨rfl, ?_⟩) (by assumption) ?_; rotate_left; focus (intro w hSw; (try dsimp only at hSw); go_simp; try (with_reducible rfl))); (try simp only [Act.put, List.getElem_toArray, List.getElem_cons_succ, List.getElem_cons_zero, List.setIfInBounds_toArray, List.set_cons_zero, List.set_cons_succ])
  (refine wpAnyH_take (i := 2) (v := ?_) rfl (by kernel_rfl) (by kernel_rfl) (by kernel_rfl) (fun _ _ _ h => h) (Or.inl ⟨rfl, ?_⟩) (by assumption) ?_; rotate_left; focus (intro w hSw; (try dsimp only at hSw); go_simp; try (with_reducible rfl))); (try simp only [Act.put, List.getElem_toArray, List.getElem_cons_succ, List.getElem_cons_zero, List.setIfInBounds_toArray, List.set_cons_zero, List.set_cons_succ])
  (refine wpAnyH_take (i := 3) (v := ?_) rfl (by kernel_rfl) (by kernel_rfl) (by kernel_rfl) (fun _ _ _ h => h) (Or.inl ⟨rfl, ?_⟩) (by assumption) ?_; rotate_left; focus (intro w hSw; (try dsimp only at hSw); go_simp; try (with_reducible rfl))); (try simp only [Act.put, List.getElem_toArray, List.getElem_cons_succ, List.getElem_cons_zero, List.setIfInBounds_toArray, List.set_cons_zero, List.set_cons_succ])
  (refine wpAnyH_take (i := 4) (v := ?_) rfl (by kernel_rfl) (by kernel_rfl) (by kernel_rfl) (fun _ _ _ h => h) (Or.inl ⟨rfl, ?_⟩) (by assumption) ?_; rotate_left; focus (intro w hSw; (try dsimp only at hSw); go_simp; try (with_reducible rfl))); (try simp only [Act.put, List.getElem_toArray, List.getElem_cons_succ, List.getElem_cons_zero, List.setIfInBounds_toArray, List.set_cons_zero, List.set_cons_succ])
  (refine wpAnyH_take (i := 5) (v := ?_) rfl (by kernel_rfl) (by kernel_rfl) (by kernel_rfl) (fun _ _ _ h => h) (Or.inl ⟨rfl, ?_⟩) (by assumption) ?_; rotate_left; focus (intro w hSw; (try dsimp only at hSw); go_simp; try (with_reducible rfl))); (try simp only [Act.put, List.getElem_toArray, List.getElem_cons_succ, List.getElem_cons_zero, List.setIfInBounds_toArray, List.set_cons_zero, List.set_cons_succ])
  refine wpAnyH_ready (rs := [6]) (by kernel_rfl) (by simp) ?_; refine AllReadyH.cons rfl (fun K hK => ?_) AllReadyH.nil
  go_simp
  obtain ⟨GQ, hGQ⟩ : ∃ G, wD.heap.size = G := ⟨_, rfl⟩
  have HQ : Hid (GQ < (wD.alloc (.cells #[.slice (some ⟨g, i * 2, none⟩) (n - i) (cap - i), .slice (some ⟨g, 0, none⟩) i cap] 25)).heap.size ∧ (wD.alloc (.cells #[.slice (some ⟨g, i * 2, none⟩) (n - i) (cap - i), .slice (some ⟨g, 0, none⟩) i cap] 25)).cell? ⟨GQ, 0, none⟩ = some (.slice (some ⟨g, i * 2, none⟩) (n - i) (cap - i)) ∧ (wD.alloc (.cells #[.slice (some ⟨g, i * 2, none⟩) (n - i) (cap - i), .slice (some ⟨g, 0, none⟩) i cap] 25)).cell? ⟨GQ, 1, none⟩ = some (.slice (some ⟨g, 0, none⟩) i cap)) := by
    subst hGQ
    refine ⟨by simp, ?_, ?_⟩ <;> go_cell
  refine hK.out _ _ (Below.alloc hHeld (Below.size hHeld) _) (fun hHeld2 => ?_); (clear hHeld; rename _ => hHeld; clear hK K; have hHeld : Below w.heap.size w _ := hHeld); (try simp only [Act.put, List.getElem_toArray, List.getElem_cons_succ, List.getElem_cons_zero, List.setIfInBounds_toArray, List.set_cons_zero, List.set_cons_succ])
  rw [hGQ]; clear hGQ; obtain ⟨y4, hwx⟩ : ∃ wx, wD.alloc (.cells #[.slice (some ⟨g, i * 2, none⟩) (n - i) (cap - i), .slice (some ⟨g, 0, none⟩) i cap] 25) = wx := ⟨_, rfl⟩; rw [hwx] at HQ hHeld ⊢; clear hwx
  refine wpAnyH_ready (rs := [7]) (by kernel_rfl) (by simp) ?_; refine AllReadyH.cons rfl (fun K hK => ?_) AllReadyH.nil
  have keep : ∀ (o : Nat) (x : List (Int × Int)), PtCells w g o x → PtCells y4 g o x := fun o x h j hj => by
    obtain ⟨a, b⟩ := h j hj
    exact ⟨(hHeld.cell (p := ⟨g, o + j * 2, none⟩) hg).trans a, (hHeld.cell (p := ⟨g, o + j * 2 + 1, none⟩) hg).trans b⟩
  have HCC : Hid (Calls Try.prog 147 #[.slice (some ⟨GQ, 0, none⟩) 2 2] y4 (RetQ y4 (rotL ps i))) :=
    concatP2_any GQ 2 g (i * 2) 0 (cap - i) cap (ps.drop i) (ps.take i) y4 HQ.out.1 (by have := hHeld.size; omega) (by rw [HLA.out]; exact HQ.out.2.1) (by rw [HLB.out]; exact HQ.out.2.2) (keep _ _ HA.out) (keep _ _ HB.out) (by rw [HLA.out]; omega) (by rw [HLB.out]; omega) (by rw [HLA.out, HLB.out]; omega)
  clear keep
  go_simp; (go_at_call 147; refine HCC.out.mono ?_; rintro en y5 ⟨vr, rfl, ho, hb2⟩); have HR := Lib.hid (own_lower ho (Below.size hHeld)); refine hK.out _ _ (below_after hb2 hHeld) (fun hHeld2 => ?_); clear hb2 ho; (clear hHeld; rename _ => hHeld; clear hK K; have hHeld : Below w.heap.size w _ := hHeld); (try simp only [Act.put, List.getElem_toArray, List.getElem_cons_succ, List.getElem_cons_zero, List.setIfInBounds_toArray, List.set_cons_zero, List.set_cons_succ])
  (refine wpAnyH_take (i := 8) (v := ?_) rfl (by kernel_rfl) (by kernel_rfl) (by kernel_rfl) (fun _ _ _ h => h) (Or.inl ⟨rfl, ?_⟩) (by assumption) ?_; rotate_left; focus (intro w hSw; (try dsimp only at hSw); go_simp; try (with_reducible rfl))); (try simp only [Act.put, List.getElem_toArray, List.getElem_cons_succ, List.getElem_cons_zero, List.setIfInBounds_toArray, List.set_cons_zero, List.set_cons_succ])
  refine wpAnyH_done (by kernel_rfl) ?_ _
  go_wp2_with fail
  go_ret
  exact ⟨_, rfl, HR.out, hHeld⟩
end Go.Proofs.Ytmjhejmkmdgikaa
