/-
  The library's Grow and Concat at three slices of points (own work).
-/
import Derived.Test.YtmjhejmkmdgikaaOwn
import Derived.Lib.AppendZerosOnto
import Derived.Lib.SliceRun
import Derived.Laws.AppendOwnNone
namespace Go.Proofs.Ytmjhejmkmdgikaa
open Go.ChangeShapes Go.WideShapes Go.ChangeAt Go.RowKit
set_option linter.unusedVariables false
set_option maxRecDepth 100000
set_option linter.unusedSimpArgs false

/-- A call returned a list of points, and left all that was there. -/
def RetQ (w : World) (ps : List (Int × Int)) (e : Ending) (w' : World) : Prop := ∃ v, e = .returned v ∧ OwnF w.heap.size w' v ps.length (flat ps) ∧ Below w.heap.size w w'
set_option maxHeartbeats 4000000 in
theorem growP_nil (n : Nat) (hn : 1 ≤ n) (hx : n ≤ 1048576) (w : World) : Calls Try.prog 166 #[.slice none 0 0, .int .i64 n] w (RetQ w []) := by
  obtain ⟨i0, hi, hz0, hz1, hz2⟩ := info_parts info_pt
  have h1 : ¬ ((n : Int) < 0) := by omega
  have h4 : (n : Int) > 0 := by omega
  have hold : (Builtin.firstCells i0.size 0 (.slice none 0 0)).run Try.prog w.drew = .ok (#[] : Array Value) w.drew := run_firstCells_none w.drew i0.size 0 0 0
  have hrz : ∀ ty, (Builtin.append_ #[25, 3] ty #[.slice none 0 0, .int .i64 (n : Int)]).run Try.prog w =
      .ok (.slice (some ⟨w.heap.size, 0, none⟩) n (grownCap w n 0 32)) (w.drew.alloc (.cells (#[] ++ Builtin.zeroCells (Value.agg #[.int .i64 0, .int .i64 0]).cells n ++ Builtin.zeroCells (Value.agg #[.int .i64 0, .int .i64 0]).cells (grownCap w n 0 32 - n)) 32)) := fun ty => by
    have h := Lib.run_append_grow_zeros w 25 3 ty 32 i0 (.agg #[.int .i64 0, .int .i64 0]) .i64 .i64 Try.underlying25 Try.underlying3 hi hz0 none 0 0 [] hold n (by omega) (by omega) (by omega) (by omega) (by rw [hz2]; omega)
      (by rw [Nat.zero_add]; exact growslice_fits (by omega) (by rw [hz2]; omega))
    rw [Nat.zero_add] at h
    exact h
  have hGn : n ≤ grownCap w n 0 32 := grownCap_ge w _ _ _
  have hGm : grownCap w n 0 32 ≤ maxLen := grownCap_le_maxLen w n 0 32 (by unfold maxLen; omega)
  obtain ⟨G, hG⟩ : ∃ G, G = grownCap w n 0 32 := ⟨_, rfl⟩
  rw [← hG] at hrz hGn hGm
  have hG63 : G ≤ 9223372036854775807 := by unfold maxLen at hGm; omega
  have HGm := Lib.hid hGm
  clear hold hG hGm
  go_enter Try.func166, Try.ntmps166
  go_wp2_with (at_builtin; refine Lib.wpList_append_run _ rfl _ _ _ _ rfl _ _ rfl rfl _ _ (hrz _) ?_)
  go_ret
  refine ⟨_, rfl, World.ownsRow_made w.drew _ G (Nat.le_refl _) HGm.out ?_, (Below.drew (Below.refl _ _)).alloc (Nat.le_refl _) _⟩
  simp [Builtin.zeroCells, Value.cells]
  omega
/-- A part is appended: a list of points, or none. -/
theorem wpList_append_part (w0 : World) {W : World} {ops : Array Oper} {rest : List Oper} {o : Oper} {a : Act} {Q : Exit → Act → World → Prop} (hgd : o.guard = none) (s x : Operand)
    (ho : o.op = .call { callee := .builtin .append, args := #[s, x], argTypes := #[25, 25] })
    {v u : Value} {xs ys : List (Int × Int)} {B : Nat} (hown : OwnF w0.heap.size W v xs.length (flat xs)) (hpart : OwnF B W u ys.length (flat ys)) (hb : Below w0.heap.size w0 W) (hs : a.eval s = v) (hx : a.eval x = u) (hlen : xs.length + ys.length ≤ 4194304)
    (hK : ∀ v' w', OwnF w0.heap.size w' v' (xs ++ ys).length (flat (xs ++ ys)) → Below w0.heap.size w0 w' → wpList Try.prog ops Q rest (a.put o.dst v') w') : wpList Try.prog ops Q (o :: rest) a W := by
  obtain ⟨i0, hi, hz0, hz1, hz2⟩ := info_parts info_pt
  have hp0 := hpart
  rcases hpart.2 with ⟨hu, hn⟩ | ⟨g, cap, cur, hu, hbg, hg, hnc, hcm, hcs, htk⟩
  · have hy : ys = [] := List.eq_nil_of_length_eq_zero hn
    subst hy
    refine wpList_append_own_none hgd s x 25 ho w0.heap.size 32 i0 2 Try.underlying25 hi v _ _ hs hown (hx.trans hu) ?_
    refine hK v W ?_ hb
    rw [List.append_nil]; exact hown
  · refine wpList_append_own _ hgd s x 25 ho w0.heap.size 32 i0 (.agg #[.int .i64 0, .int .i64 0]) 2 16 Try.underlying25 hi hz0 hz1 hz2 rfl (by decide) v _ _ hs hown ⟨g, 0, none⟩ ys.length cap ((flat ys).map (Value.int .i64)) (hx.trans hu) ?_ ?_ ?_ ?_ ?_ hb.size ?_
    · rw [List.length_map, flat_len]
    · intro j q hj
      subst hu
      exact World.ownsRow.cells hp0 (g := g) rfl j q hj
    · intro u hu; simp only [List.mem_map] at hu; obtain ⟨y, _, rfl⟩ := hu; rfl
    · unfold maxLen; omega
    · omega
    · intro v' w' h1 h2 _
      refine hK v' w' ?_ (hb.grown h2 hb.size (fun k hk => (hown.lt k hk).1))
      show w'.ownsRow w0.heap.size 32 2 v' (xs ++ ys).length ((flat (xs ++ ys)).map (Value.int .i64))
      rw [List.length_append, flat_append, List.map_append]; exact h1
set_option maxHeartbeats 4000000 in
theorem concatP3_any (q cp B0 B1 B2 : Nat) (u0 u1 u2 : Value) (x0 x1 x2 : List (Int × Int)) (w : World) (hq : q < w.heap.size) (e0 : w.cell? ⟨q, 0, none⟩ = some u0) (e1 : w.cell? ⟨q, 1, none⟩ = some u1) (e2 : w.cell? ⟨q, 2, none⟩ = some u2)
    (s0 : OwnF B0 w u0 x0.length (flat x0)) (s1 : OwnF B1 w u1 x1.length (flat x1)) (s2 : OwnF B2 w u2 x2.length (flat x2)) (l0 : x0.length ≤ 200000) (l1 : x1.length ≤ 200000) (l2 : x2.length ≤ 200000) (l3 : 1 ≤ x0.length + x1.length + x2.length) :
    Calls Try.prog 147 #[.slice (some ⟨q, 0, none⟩) 3 cp] w (RetQ w (x0 ++ x1 ++ x2)) := by
  obtain ⟨p0, c0, rfl, _⟩ := own_viewF s0
  obtain ⟨p1, c1, rfl, _⟩ := own_viewF s1
  obtain ⟨p2, c2, rfl, _⟩ := own_viewF s2
  have S : Hid (∀ W, Below w.heap.size w W → OwnF B0 W (.slice p0 x0.length c0) x0.length (flat x0) ∧ OwnF B1 W (.slice p1 x1.length c1) x1.length (flat x1) ∧ OwnF B2 W (.slice p2 x2.length c2) x2.length (flat x2)) := fun W hW => ⟨s0.below hW, s1.below hW, s2.below hW⟩
  have HQ : Hid (∀ W, Below w.heap.size w W → W.cell? ⟨q, 0, none⟩ = some (.slice p0 x0.length c0) ∧ W.cell? ⟨q, 1, none⟩ = some (.slice p1 x1.length c1) ∧ W.cell? ⟨q, 2, none⟩ = some (.slice p2 x2.length c2)) := by
    intro W hW
    exact ⟨(hW.cell (p := ⟨q, 0, none⟩) hq).trans e0, (hW.cell (p := ⟨q, 1, none⟩) hq).trans e1, (hW.cell (p := ⟨q, 2, none⟩) hq).trans e2⟩
  have k0 : (0 : Int) ≤ x0.length := by omega
  have k1 : (0 : Int) ≤ x1.length := by omega
  have k2 : (0 : Int) ≤ x2.length := by omega
  have m0 : (x0.length : Int) ≤ 200000 := by omega
  have m1 : (x1.length : Int) ≤ 200000 := by omega
  have m2 : (x2.length : Int) ≤ 200000 := by omega
  have HG : Hid (∀ W, Calls Try.prog 166 #[.slice none 0 0, .int .i64 ((x0.length : Int) + x1.length + x2.length)] W (RetQ W [])) := by
    intro W
    have := growP_nil (x0.length + x1.length + x2.length) (by omega) (by omega) W
    simpa using this
  clear s0 s1 s2
  go_enter Try.func147, Try.ntmps147
  go_wp2
  refine wp_loop_rounds 5 ?_
  rw [rounds_succ]
  go_wp2
  (try rw [rounds_succ])
  go_wp2
  (try rw [rounds_succ])
  go_wp2
  (try rw [rounds_succ])
  go_wp2_with (first | (go_at_call 166; refine (HG.out _).mono ?_; rintro e w1 ⟨v, rfl, ho, hb⟩; have HO := Lib.hid ho; have HB := Lib.hid hb; clear e0 e1 e2; obtain ⟨e0, e1, e2⟩ := HQ.out _ hb; clear ho hb))
  refine wp_loop_rounds 5 ?_
  rw [rounds_succ]
  go_wp2_with (at_builtin; refine wpList_append_part w rfl _ _ rfl HO.out (S.out _ HB.out).1 HB.out rfl rfl (by simp only [List.length_append, List.length_nil, List.nil_append]; omega) ?_; clear HO HB e0 e1 e2; intro v' w1 ho hb; have HO := Lib.hid ho; have HB := Lib.hid hb; obtain ⟨e0, e1, e2⟩ := HQ.out _ hb; clear ho hb)
  (try rw [rounds_succ])
  go_wp2_with (at_builtin; refine wpList_append_part w rfl _ _ rfl HO.out (S.out _ HB.out).2.1 HB.out rfl rfl (by simp only [List.length_append, List.length_nil, List.nil_append]; omega) ?_; clear HO HB e0 e1 e2; intro v' w1 ho hb; have HO := Lib.hid ho; have HB := Lib.hid hb; obtain ⟨e0, e1, e2⟩ := HQ.out _ hb; clear ho hb)
  (try rw [rounds_succ])
  go_wp2_with (at_builtin; refine wpList_append_part w rfl _ _ rfl HO.out (S.out _ HB.out).2.2 HB.out rfl rfl (by simp only [List.length_append, List.length_nil, List.nil_append]; omega) ?_; clear HO HB e0 e1 e2; intro v' w1 ho hb; have HO := Lib.hid ho; have HB := Lib.hid hb; obtain ⟨e0, e1, e2⟩ := HQ.out _ hb; clear ho hb)
  (try rw [rounds_succ])
  go_wp2
  go_ret
  have ho := HO.out
  rw [List.nil_append] at ho
  exact ⟨_, rfl, ho, HB.out⟩
end Go.Proofs.Ytmjhejmkmdgikaa
