/-
  The library's Chunk by two, as an iterator over the pairs of a list (own work).
-/
import Derived.RangeFuncNested
import Derived.RangeFuncBound
import Derived.RangeFuncCalls
import Derived.RangeFuncLeaves
import Derived.RangeFuncBox
import Derived.Shelf.Abstract
import Derived.Shelf.RegionOpen
import Derived.OwnWalkIn
import Derived.TacticsInMore
import Derived.LoopNIn
import Derived.LoopIn
import Derived.Test.YtbgifgfegndlkabWpS
namespace Go.Proofs.Ytbgifgfegndlkab
open Go.ChangeShapes Go.WideShapes Go.ChangeAt Go.RowKit Go.Shelf
set_option linter.unusedVariables false
set_option linter.unusedSimpArgs false

/-- The part of the list that one round is handed. -/
def enC (g : Nat) (x : Nat) : Array Value := #[.slice (some ⟨g, x * 2, none⟩) 2 2]
/-- The two cells that the iterator reads stay. -/
def KpC (Ba Bb : Nat) (W W' : World) : Prop := W'.heap[Ba]? = W.heap[Ba]? ∧ W'.heap[Bb]? = W.heap[Bb]?
set_option maxRecDepth 100000 in
set_option maxHeartbeats 2000000 in
theorem chunk1_in (n : Nat) (hn : 1 ≤ n) (l Ba Bb g m cap : Nat) (hm : m * 2 ≤ cap) (hcap : cap ≤ 9223372036854775807) (J Jx : List Nat → World → Prop)
    (hY : ∀ pre x W, x < m → J pre W → pre.length < m → YieldAt Fence.wide (n - 1) Try.prog l (enC g x) W fun e W' =>
      (e = .returned (.bool true) ∧ J (pre ++ [x]) W' ∧ KpC Ba Bb W W') ∨ (e = .returned (.bool false) ∧ Jx (pre ++ [x]) W'))
    (W : World) (hA : W.cell? ⟨Ba, 0, none⟩ = some (.slice (some ⟨g, 0, none⟩) (m * 2) cap)) (hB : W.cell? ⟨Bb, 0, none⟩ = some (.int .i64 2)) (h0 : J [] W) (hJd : ∀ pre W k, J pre W → J pre (World.drewN W k)) :
    CallsIn Fence.wide n Try.prog 14 #[.func (.yield l) #[] #[], .pointer (some ⟨Ba, 0, none⟩), .pointer (some ⟨Bb, 0, none⟩)] W fun e W' => (∃ v, e = .returned v) ∧
      (J (List.range m) W' ∨ (∃ pre, Jx pre W')) := by
  refine callsIn_of_wp Try.func14 rfl trivial ?_ rfl
  simp only [Try.ntmps14, List.size_toArray, List.length_cons, List.length_nil, Nat.reduceAdd, Nat.reduceSub, Array.replicate_succ, Array.replicate_zero, List.push_toArray, List.append_toArray, List.nil_append, List.cons_append]
  gi_wp2
  gi_loopw [4] (fun ti wr => ∃ (j : Nat), ti = .int .i64 ((j * 2 : Nat) : Int) ∧ j ≤ m ∧ J (List.range j) wr ∧ wr.cell? ⟨Ba, 0, none⟩ = some (.slice (some ⟨g, 0, none⟩) (m * 2) cap) ∧ wr.cell? ⟨Bb, 0, none⟩ = some (.int .i64 2)) (fun ti _ => m * 2 - (intOf ti).toNat)
  case atStart => exact ⟨0, rfl, by omega, h0, hA, hB⟩
  case round =>
    obtain ⟨j, rfl, hj, hJ, cA, cB⟩ := hrel
    by_cases hjm : j < m
    · have hlt : decide (((j * 2 : Nat) : Int) < ((m * 2 : Nat) : Int)) = true := by simp; omega
      have q1 : (0 : Int) ≤ ((j * 2 : Nat) : Int) := by omega
      have q2 : j * 2 ≤ m * 2 := by omega
      have q3 : ((j * 2 : Nat) : Int) ≤ ((m * 2 : Nat) : Int) := by omega
      have q4 : min (2 : Int) ((m * 2 - j * 2 : Nat) : Int) = 2 := by omega
      have q5 : IntKind.i64.wrap (((j * 2 : Nat) : Int) + 2) = ((j * 2 : Nat) : Int) + 2 := by rw [IntKind.wrap_i64]; omega
      gi_wp2
      gi_quiet (fail)
      obtain ⟨fn, tmps, assign, body, hy, hR⟩ := hY (List.range j) j (wr.drewN nq) hjm (hJd _ _ _ hJ) (by simpa using hjm)
      unfold enC at hy
      have cA2 : (wr.drewN nq).cell? ⟨Ba, 0, none⟩ = some (.slice (some ⟨g, 0, none⟩) (m * 2) cap) := cA
      have cB2 : (wr.drewN nq).cell? ⟨Bb, 0, none⟩ = some (.int .i64 2) := cB
      gi_wp2
      refine hR.mono ?_
      rintro e W3 (⟨rfl, hJ3, hk1, hk2⟩ | ⟨rfl, hJx3⟩)
      · have cA3 : W3.cell? ⟨Ba, 0, none⟩ = some (.slice (some ⟨g, 0, none⟩) (m * 2) cap) := (World.cell?_of_block (a := ⟨Ba, 0, none⟩) hk1).trans cA2
        have cB3 : W3.cell? ⟨Bb, 0, none⟩ = some (.int .i64 2) := (World.cell?_of_block (a := ⟨Bb, 0, none⟩) hk2).trans cB2
        clear hy hR cA2 cB2 hk1 hk2
        gi_wp2
        go_roundw
        case rel => exact ⟨j + 1, by congr 1; omega, by omega, by rw [List.range_succ]; exact hJ3, cA3, cB3⟩
        case measure => simp only [intOf]; omega
      · gi_wp2
        refine bodyPost_ret (results_none rfl _ _ _) rfl ?_
        exact ⟨⟨_, rfl⟩, .inr ⟨_, hJx3⟩⟩
    · have hlt : decide (((j * 2 : Nat) : Int) < ((m * 2 : Nat) : Int)) = false := by simp; omega
      obtain rfl : j = m := by omega
      gi_wp2
      go_end0
      exact ⟨⟨_, rfl⟩, .inl hJ⟩
end Go.Proofs.Ytbgifgfegndlkab
