/-
  A polygon in order, in the model (own work).
-/
import Derived.Test.YtmjhejmkmdgikaaPgB
import Derived.Test.YtmjhejmkmdgikaaPgU
namespace Go.Proofs.Ytmjhejmkmdgikaa
open Go.ChangeShapes Go.WideShapes Go.ChangeAt Go.RowKit
set_option linter.unusedVariables false
set_option maxRecDepth 100000
set_option linter.unusedSimpArgs false
set_option maxRecDepth 100000

/-- Where the least corner is, looked for from the front. -/
def ixm (ps : List (Int × Int)) : Nat → Nat
  | 0 => 0
  | k + 1 => if lxlt (ps.getD k (0, 0)) (ps.getD (ixm ps k) (0, 0)) = true then k else ixm ps k
theorem ixm_lt {ps : List (Int × Int)} {n : Nat} (h : 1 ≤ n) : ∀ k, k ≤ n → ixm ps k < n
  | 0, _ => h
  | k + 1, hk => by
    unfold ixm
    split
    · omega
    · exact ixm_lt h k (by omega)
theorem ixm_succ (ps : List (Int × Int)) (k : Nat) : ixm ps (k + 1) = if lxlt (ps.getD k (0, 0)) (ps.getD (ixm ps k) (0, 0)) = true then k else ixm ps k := rfl
theorem wp_append_cells (B : Nat) {W : World} {o : Oper} {a : Act} {K : Act → World → Prop} {Q : Exit → Act → World → Prop} (s x : Operand)
    (ho : o.op = .call { callee := .builtin .append, args := #[s, x], argTypes := #[25, 25] })
    {v : Value} {xs ys : List (Int × Int)} {g off cap : Nat} (hown : OwnF B W v xs.length (flat xs)) (hpart : PtCells W g off ys) (hb : B ≤ W.heap.size) (hs : a.eval s = v) (hx : a.eval x = .slice (some ⟨g, off, none⟩) ys.length cap) (hlen : xs.length + ys.length ≤ 4194304)
    (hK : ∀ v' w', OwnF B w' v' (xs ++ ys).length (flat (xs ++ ys)) → W.grownBy w' v.ownBlock → K (a.put o.dst v') w') : Oper.wp Try.prog o a W K Q := by
  obtain ⟨i0, hi, hz0, hz1, hz2⟩ := info_parts info_pt
  refine wp_append_own W s x 25 ho B 32 i0 (.agg #[.int .i64 0, .int .i64 0]) 2 16 Try.underlying25 hi hz0 hz1 hz2 rfl (by decide) v _ _ hs hown ⟨g, off, none⟩ ys.length cap ((flat ys).map (Value.int .i64)) hx ?_ ?_ ?_ ?_ ?_ hb ?_
  · rw [List.length_map, flat_len]
  · intro j q hj
    have hx := ptCells_at hpart j q hj
    by_cases h0 : j = 0
    · subst h0; simpa [Addr.add] using hx
    · simpa [Addr.add, h0] using hx
  · intro u hu; simp only [List.mem_map] at hu; obtain ⟨y, _, rfl⟩ := hu; rfl
  · unfold maxLen; omega
  · omega
  · intro v' w' h1 h2 _
    refine hK v' w' ?_ h2
    show w'.ownsRow B 32 2 v' (xs ++ ys).length ((flat (xs ++ ys)).map (Value.int .i64))
    rw [List.length_append, flat_append, List.map_append]; exact h1
end Go.Proofs.Ytmjhejmkmdgikaa
