/-
  The library's Grow and Concat at three slices of int64 (own work).
-/
import Derived.Test.YtoenlpkphekbnaaLong
import Derived.Lib.AppendZerosOnto
import Derived.Lib.SliceRun
namespace Go.Proofs.Ytoenlpkphekbnaa
open Go.ChangeShapes Go.WideShapes Go.ChangeAt Go.RowKit
set_option linter.unusedVariables false
set_option maxRecDepth 100000
set_option linter.unusedSimpArgs false

set_option maxHeartbeats 4000000 in
theorem grow_nil (n : Nat) (hn : 1 ≤ n) (hx : n ≤ 4194304) (w : World) : Calls Try.prog 142 #[.slice none 0 0, .int .i64 n] w (RetI w []) := by
  obtain ⟨i0, hi, hz0, hz1, hz2⟩ := info_parts info_int
  have h1 : ¬ ((n : Int) < 0) := by omega
  have h4 : (n : Int) > 0 := by omega
  have hold : (Builtin.firstCells i0.size 0 (.slice none 0 0)).run Try.prog w.drew = .ok (#[] : Array Value) w.drew := run_firstCells_none w.drew i0.size 0 0 0
  have hrz : ∀ ty, (Builtin.append_ #[66, 3] ty #[.slice none 0 0, .int .i64 (n : Int)]).run Try.prog w =
      .ok (.slice (some ⟨w.heap.size, 0, none⟩) n (grownCap w n 0 2)) (w.drew.alloc (.cells (#[] ++ Builtin.zeroCells (Value.int .i64 0).cells n ++ Builtin.zeroCells (Value.int .i64 0).cells (grownCap w n 0 2 - n)) 2)) := fun ty => by
    have h := Lib.run_append_grow_zeros w 66 3 ty 2 i0 (.int .i64 0) .i64 .i64 Try.underlying66 Try.underlying3 hi hz0 none 0 0 [] hold n (by omega) (by omega) (by omega) (by omega) (by rw [hz2]; omega)
      (by rw [Nat.zero_add]; exact growslice_fits (by omega) (by rw [hz2]; omega))
    rw [Nat.zero_add] at h
    exact h
  have hGn : n ≤ grownCap w n 0 2 := grownCap_ge w _ _ _
  have hGm : grownCap w n 0 2 ≤ maxLen := grownCap_le_maxLen w n 0 2 (by unfold maxLen; omega)
  obtain ⟨G, hG⟩ : ∃ G, G = grownCap w n 0 2 := ⟨_, rfl⟩
  rw [← hG] at hrz hGn hGm
  have hG63 : G ≤ 9223372036854775807 := by unfold maxLen at hGm; omega
  have HGm := Lib.hid hGm
  clear hold hG hGm
  go_enter Try.func142, Try.ntmps142
  go_wp2_with (at_builtin; refine Lib.wpList_append_run _ rfl _ _ _ _ rfl _ _ rfl rfl _ _ (hrz _) ?_)
  go_ret
  refine ⟨_, rfl, World.ownsRow_made w.drew _ G (Nat.le_refl _) HGm.out ?_, (Below.drew (Below.refl _ _)).alloc (Nat.le_refl _) _⟩
  simp [Builtin.zeroCells, Value.cells]
  omega
/-- A list that can be read: in a block that was there. -/
def Src (w : World) (g : Nat) (ys : List Int) : Prop := g < w.heap.size ∧ ∀ j, j < ys.length → w.cell? ⟨g, j, none⟩ = some (.int .i64 (ys.getD j 0))
theorem Src.of_own {B : Nat} {w : World} {g cap : Nat} {xs : List Int} (h : OwnI B w (.slice (some ⟨g, 0, none⟩) xs.length cap) xs) (hn : 1 ≤ xs.length) : Src w g xs := by
  obtain ⟨a, cap', he, f⟩ := own_view h
  obtain ⟨g', rfl, _, hg, hc, _⟩ := f (by omega)
  simp only [Value.slice.injEq, Option.some.injEq, Addr.mk.injEq, and_true, true_and] at he
  obtain ⟨rfl, _⟩ := he
  exact ⟨hg, hc⟩
theorem wpList_append_src (w0 : World) {W : World} {ops : Array Oper} {rest : List Oper} {o : Oper} {a : Act} {Q : Exit → Act → World → Prop} (hgd : o.guard = none) (s x : Operand)
    (ho : o.op = .call { callee := .builtin .append, args := #[s, x], argTypes := #[66, 66] })
    {v : Value} {xs ys : List Int} {g c : Nat} (hown : OwnI w0.heap.size W v xs) (hsrc : Src w0 g ys) (hb : Below w0.heap.size w0 W) (hs : a.eval s = v) (hx : a.eval x = .slice (some ⟨g, 0, none⟩) ys.length c) (hlen : xs.length + ys.length ≤ 8388608)
    (hK : ∀ v' w', OwnI w0.heap.size w' v' (xs ++ ys) → Below w0.heap.size w0 w' → wpList Try.prog ops Q rest (a.put o.dst v') w') : wpList Try.prog ops Q (o :: rest) a W := by
  obtain ⟨i0, hi, hz0, hz1, hz2⟩ := info_parts info_int
  refine wpList_append_own _ hgd s x 66 ho w0.heap.size 2 i0 (.int .i64 0) 1 8 Try.underlying66 hi hz0 hz1 hz2 rfl (by decide) v _ _ hs hown ⟨g, 0, none⟩ ys.length c (ys.map (Value.int .i64)) hx ?_ ?_ ?_ ?_ ?_ hb.size ?_
  · rw [List.length_map]; omega
  · intro j u hj
    rw [List.getElem?_map] at hj
    cases hy : ys[j]? with
    | none => rw [hy] at hj; cases hj
    | some y =>
      rw [hy] at hj
      cases hj
      have hjm := (List.getElem?_eq_some_iff.1 hy).1
      have e : (Addr.add ⟨g, 0, none⟩ j) = ⟨g, j, none⟩ := by unfold Addr.add; split <;> simp_all
      rw [e, hb.cell (p := ⟨g, j, none⟩) hsrc.1, hsrc.2 j hjm]
      simp [List.getD, hy]
  · intro u hu; simp only [List.mem_map] at hu; obtain ⟨y, _, rfl⟩ := hu; rfl
  · unfold maxLen; omega
  · omega
  · intro v' w' h1 h2 _
    refine hK v' w' ?_ (hb.grown h2 hb.size (fun k hk => (hown.lt k hk).1))
    show w'.ownsRow w0.heap.size 2 1 v' (xs ++ ys).length ((xs ++ ys).map (Value.int .i64))
    rw [List.length_append, List.map_append]; exact h1
set_option maxHeartbeats 4000000 in
theorem concat3_any (q cp g0 g1 g2 c0 c1 c2 : Nat) (x0 x1 x2 : List Int) (w : World) (hq : q < w.heap.size) (e0 : w.cell? ⟨q, 0, none⟩ = some (.slice (some ⟨g0, 0, none⟩) x0.length c0)) (e1 : w.cell? ⟨q, 1, none⟩ = some (.slice (some ⟨g1, 0, none⟩) x1.length c1)) (e2 : w.cell? ⟨q, 2, none⟩ = some (.slice (some ⟨g2, 0, none⟩) x2.length c2))
    (s0 : Src w g0 x0) (s1 : Src w g1 x1) (s2 : Src w g2 x2) (l0 : 1 ≤ x0.length ∧ x0.length ≤ 1000003) (l1 : 1 ≤ x1.length ∧ x1.length ≤ 1000003) (l2 : 1 ≤ x2.length ∧ x2.length ≤ 1000003) :
    Calls Try.prog 132 #[.slice (some ⟨q, 0, none⟩) 3 cp] w (RetI w (x0 ++ x1 ++ x2)) := by
  have S0 := Lib.hid s0
  have S1 := Lib.hid s1
  have S2 := Lib.hid s2
  have HQ : Hid (∀ W, Below w.heap.size w W → W.cell? ⟨q, 0, none⟩ = some (.slice (some ⟨g0, 0, none⟩) x0.length c0) ∧ W.cell? ⟨q, 1, none⟩ = some (.slice (some ⟨g1, 0, none⟩) x1.length c1) ∧ W.cell? ⟨q, 2, none⟩ = some (.slice (some ⟨g2, 0, none⟩) x2.length c2)) := by
    intro W hW
    exact ⟨(hW.cell (p := ⟨q, 0, none⟩) hq).trans e0, (hW.cell (p := ⟨q, 1, none⟩) hq).trans e1, (hW.cell (p := ⟨q, 2, none⟩) hq).trans e2⟩
  obtain ⟨l00, l01⟩ := l0
  obtain ⟨l10, l11⟩ := l1
  obtain ⟨l20, l21⟩ := l2
  have k0 : (0 : Int) ≤ x0.length := by omega
  have k1 : (0 : Int) ≤ x1.length := by omega
  have k2 : (0 : Int) ≤ x2.length := by omega
  have m0 : (x0.length : Int) ≤ 1000003 := by omega
  have m1 : (x1.length : Int) ≤ 1000003 := by omega
  have m2 : (x2.length : Int) ≤ 1000003 := by omega
  have HG : Hid (∀ W, Calls Try.prog 142 #[.slice none 0 0, .int .i64 ((x0.length : Int) + x1.length + x2.length)] W (RetI W [])) := by
    intro W
    have := grow_nil (x0.length + x1.length + x2.length) (by omega) (by omega) W
    simpa using this
  clear s0 s1 s2
  go_enter Try.func132, Try.ntmps132
  go_wp2
  refine wp_loop_rounds 5 ?_
  rw [rounds_succ]
  go_wp2
  (try rw [rounds_succ])
  go_wp2
  (try rw [rounds_succ])
  go_wp2
  (try rw [rounds_succ])
  go_wp2_with (first | (go_at_call 142; refine (HG.out _).mono ?_; rintro e w1 ⟨v, rfl, ho, hb⟩; have HO := Lib.hid ho; have HB := Lib.hid hb; clear e0 e1 e2; obtain ⟨e0, e1, e2⟩ := HQ.out _ hb; clear ho hb))
  refine wp_loop_rounds 5 ?_
  rw [rounds_succ]
  go_wp2_with (at_builtin; refine wpList_append_src w rfl _ _ rfl HO.out S0.out HB.out rfl rfl (by simp only [List.length_append, List.length_nil, List.nil_append]; omega) ?_; clear HO HB e0 e1 e2; intro v' w1 ho hb; have HO := Lib.hid ho; have HB := Lib.hid hb; obtain ⟨e0, e1, e2⟩ := HQ.out _ hb; clear ho hb)
  (try rw [rounds_succ])
  go_wp2_with (at_builtin; refine wpList_append_src w rfl _ _ rfl HO.out S1.out HB.out rfl rfl (by simp only [List.length_append, List.length_nil, List.nil_append]; omega) ?_; clear HO HB e0 e1 e2; intro v' w1 ho hb; have HO := Lib.hid ho; have HB := Lib.hid hb; obtain ⟨e0, e1, e2⟩ := HQ.out _ hb; clear ho hb)
  (try rw [rounds_succ])
  go_wp2_with (at_builtin; refine wpList_append_src w rfl _ _ rfl HO.out S2.out HB.out rfl rfl (by simp only [List.length_append, List.length_nil, List.nil_append]; omega) ?_; clear HO HB e0 e1 e2; intro v' w1 ho hb; have HO := Lib.hid ho; have HB := Lib.hid hb; obtain ⟨e0, e1, e2⟩ := HQ.out _ hb; clear ho hb)
  (try rw [rounds_succ])
  go_wp2
  go_ret
  have ho := HO.out
  rw [List.nil_append] at ho
  exact ⟨_, rfl, ho, HB.out⟩
end Go.Proofs.Ytoenlpkphekbnaa
