/-
  The library's iterator over a slice of int64 from its last number on, by its contract, and the fold of chapter 1 over it (own work).
-/
import Derived.RangeFuncNested
import Derived.RangeFuncBound
import Derived.RangeFuncCalls
import Derived.RangeFuncLeaves
import Derived.Shelf.Abstract
import Derived.Shelf.RegionOpen
import Derived.OwnWalkIn
import Derived.TacticsInMore
import Derived.LoopNIn
import Derived.LoopIn
import Derived.Test.YtoenlpkphekbnaaFrac2
namespace Go.Proofs.Ytoenlpkphekbnaa
open Go.ChangeShapes Go.WideShapes Go.ChangeAt Go.RowKit Go.Shelf
set_option linter.unusedVariables false
set_option maxRecDepth 100000
set_option linter.unusedSimpArgs false
attribute [local go_sem] Oper.semAt_some

theorem keepsOthers_of_below {W wn : World} (h : Below W.heap.size W wn) : KeepsOthers W wn :=
  ⟨h.size, fun k o hk _ => (h.block k (Array.getElem?_eq_some_iff.1 hk).1).trans hk⟩
/-- What has come when k rounds are over. -/
def upto {α : Type} (f : Nat → α) (k : Nat) : List α := (List.range k).map f
theorem upto_succ {α : Type} (f : Nat → α) (k : Nat) : upto f (k + 1) = upto f k ++ [f k] := by simp [upto, List.range_succ]
theorem upto_length {α : Type} (f : Nat → α) (k : Nat) : (upto f k).length = k := by simp [upto]
/-- An index and a number that fits. -/
abbrev Pc := { x : Nat × Int // crd x.2 = true }
/-- A list from its last number on: index and number. -/
def bk (zs : List Int) (hz : ∀ i : Nat, crd (zs[i]?.getD 0) = true) (n j : Nat) : Pc := ⟨(n - 1 - j, zs[n - 1 - j]?.getD 0), hz _⟩
/-- The numbers that have come, the last one that came ahead. -/
def came (pre : List Pc) : List Int := (pre.map (·.1.2)).reverse
theorem came_snoc (pre : List Pc) (x : Pc) : came (pre ++ [x]) = x.1.2 :: came pre := by simp [came]
theorem came_bk (zs : List Int) (hz : ∀ i : Nat, crd (zs[i]?.getD 0) = true) : ∀ k, k ≤ zs.length → came (upto (bk zs hz zs.length) k) = zs.drop (zs.length - k)
  | 0, _ => by simp [came, upto]
  | k + 1, h => by
    rw [upto_succ, came_snoc, came_bk zs hz k (by omega)]
    have e : zs.length - (k + 1) = zs.length - 1 - k := by omega
    have e2 : zs.length - k = zs.length - 1 - k + 1 := by omega
    rw [e, e2, drop_step (show zs.length - 1 - k < zs.length by omega)]
    simp [bk, List.getD]
/-- What a round keeps: what lay below n₀, and the iterator's own cell. -/
def Kb (n₀ Bs : Nat) (W W' : World) : Prop := Below n₀ W W' ∧ W'.cell? ⟨Bs, 0, none⟩ = W.cell? ⟨Bs, 0, none⟩
theorem kb_t {n₀ Bs : Nat} {A B C : World} (h : Kb n₀ Bs A B) (k : Kb n₀ Bs B C) : Kb n₀ Bs A C := ⟨h.1.trans k.1, k.2.trans h.2⟩
theorem kb_b {n₀ Bs : Nat} {w : World} (hn : n₀ ≤ w.heap.size) (hBs : Bs < w.heap.size) (W : World) (l : Nat) (o o' : Obj) (hl : w.heap.size ≤ l) (h : W.heap[l]? = some o) (h1 : o.isCells = false) (h2 : o.isWalk = false) : Kb n₀ Bs W (W.putObj l o') :=
  ⟨belowK_b hn W l o o' hl h h1 h2, (belowK_b (w := w) (Nat.le_refl _) W l o o' hl h h1 h2).cell (p := ⟨Bs, 0, none⟩) hBs⟩

set_option maxRecDepth 100000 in
set_option maxHeartbeats 2000000 in
theorem back1_in (F : Fence) (n : Nat) (hf : F.fn 145) (hro : F.round = none) (hn : 1 ≤ n) (l Bs n₀ b off len cap : Nat) (zs : List Int) (hz : ∀ i : Nat, crd (zs[i]?.getD 0) = true) (hreach : len ≤ 1048576) (hb : b < n₀) (J Jx : List Pc → World → Prop)
    (hY : ∀ pre x W, J pre W → pre.length < len → YieldAt F (n - 1) Try.prog l #[.int .i64 (x.1.1 : Int), .int .i64 x.1.2] W fun e W' =>
      (e = .returned (.bool true) ∧ J (pre ++ [x]) W' ∧ Kb n₀ Bs W W') ∨ (e = .returned (.bool false) ∧ Jx (pre ++ [x]) W'))
    (W : World) (hBs : W.cell? ⟨Bs, 0, none⟩ = some (.slice (some ⟨b, off, none⟩) len cap)) (hc : ∀ j, j < len → W.cell? ⟨b, off + j, none⟩ = some (.int .i64 (zs[j]?.getD 0))) (h0 : J [] W) :
    CallsIn F n Try.prog 145 #[.func (.yield l) #[] #[], .pointer (some ⟨Bs, 0, none⟩)] W fun e W' => (∃ v, e = .returned v) ∧
      ((∃ ys, ys = upto (bk zs hz len) len ∧ J ys W') ∨ (∃ pre, (∃ k, k ≤ len ∧ pre = upto (bk zs hz len) k) ∧ Jx pre W')) := by
  refine callsIn_of_wp Try.func145 rfl hf ?_ hro
  simp only [Try.ntmps145, List.size_toArray, List.length_cons, List.length_nil, Nat.reduceAdd, Nat.reduceSub, Array.replicate_succ, Array.replicate_zero, List.push_toArray, List.append_toArray, List.nil_append, List.cons_append]
  gi_wp2
  gi_loopw [3] (fun i wr => ∃ k : Nat, k ≤ len ∧ i = .int .i64 ((len : Int) - 1 - k) ∧ J (upto (bk zs hz len) k) wr ∧ Kb n₀ Bs W wr)
    (fun i _ => (intOf i + 1).toNat)
  case atStart => exact ⟨0, Nat.zero_le _, by simp, h0, ⟨Below.refl _ _, rfl⟩⟩
  case round =>
    obtain ⟨k, hk, rfl, hJs, hnx⟩ := hrel
    have hcs := hnx.2.trans hBs
    by_cases hlt : k < len
    · obtain ⟨t, ht⟩ : ∃ t, len = t + 1 + k := ⟨len - 1 - k, by omega⟩
      have hx : (len : Int) - 1 - k = (t : Int) := by omega
      have htx : len - 1 - k = t := by omega
      have hcx : wr.cell? ⟨b, off + t, none⟩ = some (.int .i64 (zs[t]?.getD 0)) := (hnx.1.cell (p := ⟨b, off + t, none⟩) hb).trans (hc t (by omega))
      have hR0 := hY _ (bk zs hz len k) wr hJs (by rw [upto_length]; exact hlt)
      have hbk : (bk zs hz len k).1 = (t, zs[t]?.getD 0) := by unfold bk; simp only [htx]
      rw [hbk] at hR0
      have hi0 : (0 : Int) ≤ (t : Int) := by omega
      have hi1 : (t : Int) < (len : Int) := by omega
      have hi2 : (len : Int) ≤ 1048576 := by omega
      rw [hx]
      have HX := Lib.hid hx
      have HT := Lib.hid htx
      have HTT := Lib.hid ht
      have HB := Lib.hid hbk
      clear hx htx ht hbk
      obtain ⟨fn, tmps, assign, body, hy, hR⟩ := hR0
      dsimp only at hy
      gi_wp2
      refine hR.mono ?_
      rintro e W3 (⟨rfl, hJ3, hk3⟩ | ⟨rfl, hJx3⟩)
      · have hcs3 := hk3.2.trans hcs
        gi_wp2
        go_roundw
        case rel => exact ⟨k + 1, by omega, by have := HX.out; show Value.int _ _ = Value.int _ _; congr 1; omega, by rw [upto_succ]; exact hJ3, kb_t hnx hk3⟩
        case measure => simp [intOf]
      · gi_wp2
        refine bodyPost_ret (results_none rfl _ _ _) rfl ?_
        exact ⟨⟨_, rfl⟩, .inr ⟨_, ⟨k + 1, by omega, (upto_succ _ _).symm⟩, hJx3⟩⟩
    · obtain rfl : k = len := by omega
      have hx : (k : Int) - 1 - k = -1 := by omega
      rw [hx]
      clear hx
      gi_wp2
      go_end0
      exact ⟨⟨_, rfl⟩, .inl ⟨_, rfl, hJs⟩⟩
set_option maxHeartbeats 1000000 in
theorem back_in (F : Fence) (n : Nat) (hf : F.fn 144) (hro : F.round = none) (a : Option Addr) (len cap : Nat) (w : World) :
    CallsIn F n Try.prog 144 #[.slice a len cap] w fun e w' => e = .returned (.func (.func 145) #[] #[.pointer (some ⟨w.heap.size, 0, none⟩)]) ∧ w' = w.alloc (.cells #[.slice a len cap] 66) := by
  refine callsIn_of_wp Try.func144 rfl hf ?_ hro
  simp only [Try.ntmps144, List.size_toArray, List.length_cons, List.length_nil, Nat.reduceAdd, Nat.reduceSub, Array.replicate_succ, Array.replicate_zero, List.push_toArray, List.append_toArray, List.nil_append, List.cons_append]
  gi_wp2
  go_ret
  exact ⟨rfl, rfl⟩
theorem back_stops (F : Fence) (n : Nat) (hf : F.fn 145) (hro : F.round = none) (hn : 1 ≤ n) (Bs n₀ b off cap : Nat) (zs : List Int) (hz : ∀ i : Nat, crd (zs[i]?.getD 0) = true) (hreach : zs.length ≤ 1048576) (w : World) (hBs : Bs < w.heap.size) (hn₀ : n₀ ≤ w.heap.size)
    (hc : w.cell? ⟨Bs, 0, none⟩ = some (.slice (some ⟨b, off, none⟩) zs.length cap)) (hb : b < n₀) (hcs : ∀ j, j < zs.length → w.cell? ⟨b, off + j, none⟩ = some (.int .i64 (zs[j]?.getD 0))) :
    SeqStopsK F n Try.prog 145 #[.pointer (some ⟨Bs, 0, none⟩)] (fun x : Pc => #[Value.int .i64 (x.1.1 : Int), Value.int .i64 x.1.2]) (Kb n₀ Bs) (fun ys => ys = upto (bk zs hz zs.length) zs.length)
      (fun pre => ∃ k, k ≤ zs.length ∧ pre = upto (bk zs hz zs.length) k) zs.length w := fun l J Jx W hW _ _ hY h0 =>
  back1_in F n hf hro hn l Bs n₀ b off zs.length cap zs hz hreach hb J Jx hY W ((hW.cell (p := ⟨Bs, 0, none⟩) hBs).trans hc) (fun j hj => (hW.cell (p := ⟨b, off + j, none⟩) (by show b < w.heap.size; omega)).trans (hcs j hj)) h0
end Go.Proofs.Ytoenlpkphekbnaa
