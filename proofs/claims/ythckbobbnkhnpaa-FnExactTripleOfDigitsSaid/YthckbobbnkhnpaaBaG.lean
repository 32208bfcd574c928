/-
  The library's iterator over a slice of slices from its last element on, by its contract, its elements of any type that shows index and value (own work).
-/
import Derived.RangeFuncNested
import Derived.RangeFuncBound
import Derived.RangeFuncCalls
import Derived.RangeFuncLeaves
import Derived.Shelf.Abstract
import Derived.Shelf.RegionOpen
import Derived.OwnWalkIn
import Derived.TacticsInMore
import Derived.LoopNIn
import Derived.LoopIn
import Derived.Test.YthckbobbnkhnpaaBaS
namespace Go.Proofs.Ythckbobbnkhnpaa
open Go.ChangeShapes Go.WideShapes Go.ChangeAt Go.RowKit Go.Shelf
set_option linter.unusedVariables false
set_option linter.unusedSimpArgs false
attribute [local go_sem] Oper.semAt_some

set_option maxRecDepth 100000 in
set_option maxHeartbeats 2000000 in
theorem back1_of (F : Fence) (n : Nat) (hf : F.fn 21) (hro : F.round = none) (hn : 1 ≤ n) (l Bs n₀ len cap : Nat) (ad : Option Addr) (vs : List Value) (hreach : len ≤ 1048576) {α : Type} (ix : α → Int) (vx : α → Value) (f : Nat → α) (hf0 : ∀ k, k < len → ix (f k) = (len : Int) - 1 - k ∧ vx (f k) = vs[len - 1 - k]?.getD .nilIface) (J Jx : List α → World → Prop)
    (hY : ∀ pre x W, J pre W → pre.length < len → YieldAt F (n - 1) Try.prog l #[.int .i64 (ix x), vx x] W fun e W' =>
      (e = .returned (.bool true) ∧ J (pre ++ [x]) W' ∧ Kb n₀ Bs W W') ∨ (e = .returned (.bool false) ∧ Jx (pre ++ [x]) W'))
    (W : World) (hBs : W.cell? ⟨Bs, 0, none⟩ = some (.slice ad len cap)) (hc : 0 < len → ∃ b, ad = some ⟨b, 0, none⟩ ∧ b < n₀ ∧ ∀ j, j < len → W.cell? ⟨b, j, none⟩ = some (vs[j]?.getD .nilIface)) (h0 : J [] W) :
    CallsIn F n Try.prog 21 #[.func (.yield l) #[] #[], .pointer (some ⟨Bs, 0, none⟩)] W fun e W' => (∃ v, e = .returned v) ∧
      ((∃ ys, ys = upto f len ∧ J ys W') ∨ (∃ pre, (∃ k, k ≤ len ∧ pre = upto f k) ∧ Jx pre W')) := by
  refine callsIn_of_wp Try.func21 rfl hf ?_ hro
  simp only [Try.ntmps21, List.size_toArray, List.length_cons, List.length_nil, Nat.reduceAdd, Nat.reduceSub, Array.replicate_succ, Array.replicate_zero, List.push_toArray, List.append_toArray, List.nil_append, List.cons_append]
  gi_wp2
  gi_loopw [3] (fun i wr => ∃ k : Nat, k ≤ len ∧ i = .int .i64 ((len : Int) - 1 - k) ∧ J (upto f k) wr ∧ Kb n₀ Bs W wr)
    (fun i _ => (intOf i + 1).toNat)
  case atStart => exact ⟨0, Nat.zero_le _, by simp, h0, ⟨Below.refl _ _, rfl⟩⟩
  case round =>
    obtain ⟨k, hk, rfl, hJs, hnx⟩ := hrel
    have hcs := hnx.2.trans hBs
    by_cases hlt : k < len
    · obtain ⟨t, ht⟩ : ∃ t, len = t + 1 + k := ⟨len - 1 - k, by omega⟩
      have hx : (len : Int) - 1 - k = (t : Int) := by omega
      have htx : len - 1 - k = t := by omega
      obtain ⟨b, rfl, hb, hcb⟩ := hc (by omega)
      have hcx : wr.cell? ⟨b, t, none⟩ = some (vs[t]?.getD .nilIface) := (hnx.1.cell (p := ⟨b, t, none⟩) hb).trans (hcb t (by omega))
      clear hcb
      have hR0 := hY _ (f k) wr hJs (by rw [upto_length]; exact hlt)
      obtain ⟨hfi, hfv⟩ := hf0 k hlt
      rw [htx] at hfv
      rw [hfi, hfv, hx] at hR0
      have hi0 : (0 : Int) ≤ (t : Int) := by omega
      have hi1 : (t : Int) < (len : Int) := by omega
      have hi2 : (len : Int) ≤ 1048576 := by omega
      rw [hx]
      have HX := Lib.hid hx
      have HT := Lib.hid htx
      have HTT := Lib.hid ht
      clear hx htx ht hfi hfv
      obtain ⟨fn, tmps, assign, body, hy, hR⟩ := hR0
      gi_wp2
      refine hR.mono ?_
      rintro e W3 (⟨rfl, hJ3, hk3⟩ | ⟨rfl, hJx3⟩)
      · have hcs3 := hk3.2.trans hcs
        gi_wp2
        go_roundw
        case rel => exact ⟨k + 1, by omega, by have := HX.out; show Value.int _ _ = Value.int _ _; congr 1; omega, by rw [upto_succ]; exact hJ3, kb_t hnx hk3⟩
        case measure => simp [intOf]
      · gi_wp2
        refine bodyPost_ret (results_none rfl _ _ _) rfl ?_
        exact ⟨⟨_, rfl⟩, .inr ⟨_, ⟨k + 1, by omega, (upto_succ _ _).symm⟩, hJx3⟩⟩
    · obtain rfl : k = len := by omega
      have hx : (k : Int) - 1 - k = -1 := by omega
      rw [hx]
      clear hx
      gi_wp2
      go_end0
      exact ⟨⟨_, rfl⟩, .inl ⟨_, rfl, hJs⟩⟩
theorem back_stops_of (F : Fence) (n : Nat) (hf : F.fn 21) (hro : F.round = none) (hn : 1 ≤ n) (Bs n₀ len cap : Nat) (ad : Option Addr) (vs : List Value) {α : Type} (ix : α → Int) (vx : α → Value) (f : Nat → α) (hf0 : ∀ k, k < len → ix (f k) = (len : Int) - 1 - k ∧ vx (f k) = vs[len - 1 - k]?.getD .nilIface) (hreach : len ≤ 1048576) (w : World) (hBs : Bs < w.heap.size) (hn₀ : n₀ ≤ w.heap.size)
    (hc : w.cell? ⟨Bs, 0, none⟩ = some (.slice ad len cap)) (hcs : 0 < len → ∃ b, ad = some ⟨b, 0, none⟩ ∧ b < n₀ ∧ ∀ j, j < len → w.cell? ⟨b, j, none⟩ = some (vs[j]?.getD .nilIface)) :
    SeqStopsK F n Try.prog 21 #[.pointer (some ⟨Bs, 0, none⟩)] (fun x : α => #[Value.int .i64 (ix x), vx x]) (Kb n₀ Bs) (fun ys => ys = upto (f) len)
      (fun pre => ∃ k, k ≤ len ∧ pre = upto (f) k) len w := fun l J Jx W hW _ _ hY h0 =>
  back1_of F n hf hro hn l Bs n₀ len cap ad vs hreach ix vx f hf0 J Jx hY W ((hW.cell (p := ⟨Bs, 0, none⟩) hBs).trans hc) (fun hp => let ⟨b, e, hb, hc⟩ := hcs hp; ⟨b, e, hb, fun j hj => (hW.cell (p := ⟨b, j, none⟩) (by show b < w.heap.size; omega)).trans (hc j hj)⟩) h0
end Go.Proofs.Ythckbobbnkhnpaa
