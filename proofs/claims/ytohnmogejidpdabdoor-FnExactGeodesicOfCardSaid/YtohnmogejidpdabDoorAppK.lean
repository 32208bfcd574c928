/-
  A list of points grows by one: what it held is still read where it was (own work).
-/
import Derived.Test.YtohnmogejidpdabDoorOwn
import Derived.Maps.AppendAt
import Derived.Deep.DeepAppendRoom
namespace Go.Proofs.YtohnmogejidpdabDoor
open Go.ChangeShapes Go.WideShapes Go.ChangeAt Go.RowKit
set_option linter.unusedVariables false
set_option maxRecDepth 100000
set_option linter.unusedSimpArgs false

theorem run_app_kept (B : Nat) {W : World} (ty : TypeId) {g cap n q c : Nat} {xs : List Int} {a0 a1 : Int} (hown : OwnF B W (.slice (some ⟨g, 0, none⟩) n cap) n xs) (c0 : W.cell? ⟨q, 0, none⟩ = some (.int .i64 a0)) (c1 : W.cell? ⟨q, 1, none⟩ = some (.int .i64 a1)) (hb : B ≤ W.heap.size) (hlen : n + 1 ≤ 4194304) :
    ∃ v' w', (Builtin.append_ #[28, 28] ty #[.slice (some ⟨g, 0, none⟩) n cap, .slice (some ⟨q, 0, none⟩) 1 c]).run Tryd.prog W = .ok v' w' ∧ OwnF B w' v' (n + 1) (xs ++ [a0, a1]) ∧ W.grownBy w' (some g) ∧ ∀ j, j < n * 2 → w'.cell? ⟨g, j, none⟩ = W.cell? ⟨g, j, none⟩ := by
  obtain ⟨i0, hi, hz0, hz1, hz2⟩ := info_parts info_pt
  have hnews : ∀ j u, ([a0, a1].map (Value.int .i64))[j]? = some u → W.cell? ((⟨q, 0, none⟩ : Addr).add j) = some u := by
    intro j u hj
    match j, hj with
    | 0, hj => simp at hj; subst hj; simpa [Addr.add] using c0
    | 1, hj => simp at hj; subst hj; simpa [Addr.add] using c1
  have h1s : ∀ u ∈ [a0, a1].map (Value.int .i64), u.oneCell' = true := by
    intro u hu; simp only [List.mem_map] at hu; obtain ⟨y, _, rfl⟩ := hu; rfl
  obtain ⟨v', w', hr, h2, h3, h4, h5⟩ := run_append_own_at (P := Tryd.prog) W B 28 ty 23 i0 (.agg #[.int .i64 0, .int .i64 0]) 2 16 Tryd.underlying28 hi hz0 hz1 hz2 rfl (by decide) _ n _ hown ⟨q, 0, none⟩ 1 c ([a0, a1].map (Value.int .i64)) rfl hnews h1s (by unfold maxLen; omega) (by omega) hb
  have h2' : OwnF B w' v' (n + 1) (xs ++ [a0, a1]) := by
    show w'.ownsRow B 23 2 v' (n + 1) ((xs ++ [a0, a1]).map (Value.int .i64))
    rw [List.map_append]; exact h2
  refine ⟨v', w', hr, h2', h3, ?_⟩
  have hxl : (xs.map (Value.int .i64)).length = n * 2 := by rw [List.length_map]; exact hown.len
  by_cases hroom : n + 1 ≤ cap
  · obtain ⟨w2, hr2, _, _⟩ := run_append_own_spare (P := Tryd.prog) W B 28 ty 23 i0 2 Tryd.underlying28 hi hz1 g n cap _ hown ⟨q, 0, none⟩ 1 c ([a0, a1].map (Value.int .i64)) rfl hnews h1s hroom
    rw [hr2] at hr
    simp only [Result.ok.injEq] at hr
    obtain ⟨rfl, rfl⟩ := hr
    intro j hj
    rw [World.ownsRow.cellAt h2 j (by omega), World.ownsRow.cellAt hown j (by omega), List.getElem?_append_left (by omega)]
  · have holds : ∀ j v, (xs.map (Value.int .i64))[j]? = some v → W.cell? ((⟨g, 0, none⟩ : Addr).add j) = some v := fun j u hu => World.ownsRow.cells hown (g := g) rfl j u hu
    have hlt : g < W.heap.size := by
      rcases hown.2 with ⟨h0, _⟩ | ⟨g', cap', cur, hv, _, hg, _⟩
      · cases h0
      · cases hv
        exact (Array.getElem?_eq_some_iff.1 hg).1
    have hr2 := run_append_grow (P := Tryd.prog) W 28 ty 23 i0 (.agg #[.int .i64 0, .int .i64 0]) Tryd.underlying28 hi hz0 ⟨g, 0, none⟩ n cap (xs.map (Value.int .i64)) (by rw [hz1]; exact hxl) holds ⟨q, 0, none⟩ 1 c ([a0, a1].map (Value.int .i64)) (by rw [hz1]; rfl) hnews (by omega) (by omega) (by rw [hz2]; exact growslice_fits (by omega) (by omega))
    rw [hr2] at hr
    simp only [Result.ok.injEq] at hr
    obtain ⟨rfl, rfl⟩ := hr
    intro j hj
    exact (((Below.refl W.heap.size W).drew).alloc (Nat.le_refl _) _).cell (p := ⟨g, j, none⟩) hlt
theorem wp_append_kept (B : Nat) {W : World} {o : Oper} {a : Act} {K : Act → World → Prop} {Q : Exit → Act → World → Prop} (s x : Operand)
    (ho : o.op = .call { callee := .builtin .append, args := #[s, x], argTypes := #[28, 28] })
    {g cap n q c : Nat} {xs : List Int} {a0 a1 : Int} (hown : OwnF B W (.slice (some ⟨g, 0, none⟩) n cap) n xs) (c0 : W.cell? ⟨q, 0, none⟩ = some (.int .i64 a0)) (c1 : W.cell? ⟨q, 1, none⟩ = some (.int .i64 a1)) (hb : B ≤ W.heap.size) (hs : a.eval s = .slice (some ⟨g, 0, none⟩) n cap) (hx : a.eval x = .slice (some ⟨q, 0, none⟩) 1 c) (hlen : n + 1 ≤ 4194304)
    (hK : ∀ v' w', OwnF B w' v' (n + 1) (xs ++ [a0, a1]) → W.grownBy w' (some g) → (∀ j, j < n * 2 → w'.cell? ⟨g, j, none⟩ = W.cell? ⟨g, j, none⟩) → K (a.put o.dst v') w') : Oper.wp Tryd.prog o a W K Q := by
  obtain ⟨v', w', hr, h2, h3, h4⟩ := run_app_kept B o.type hown c0 c1 hb hlen (c := c)
  unfold Oper.wp execOp
  simp only [ho, resolve, invoke, builtin, Sem.run_bind, Sem.run_pure, Result.andThen_ok, List.map_toArray, List.map_cons, List.map_nil, hs, hx, hr]
  exact hK _ _ h2 h3 h4
end Go.Proofs.YtohnmogejidpdabDoor
