/-
  impl.sides: a range over the sides of a list of corners (own work).
-/
import Derived.RangeFuncNested
import Derived.RangeFuncBound
import Derived.RangeFuncCalls
import Derived.RangeFuncLeaves
import Derived.RangeFuncBox
import Derived.Shelf.Abstract
import Derived.Shelf.RegionOpen
import Derived.OwnWalkIn
import Derived.TacticsInMore
import Derived.LoopNIn
import Derived.LoopIn
import Derived.Test.YtmjhejmkmdgikaaPoJ
import Derived.Test.YtmjhejmkmdgikaaPts
import Derived.Test.YtmjhejmkmdgikaaBrw
namespace Go.Proofs.Ytmjhejmkmdgikaa
open Go.ChangeShapes Go.WideShapes Go.ChangeAt Go.RowKit Go.Shelf
set_option linter.unusedVariables false
set_option maxRecDepth 100000
set_option linter.unusedSimpArgs false

/-- A point as a value. -/
def vP (p : Int × Int) : Value := .agg #[.int .i64 p.1, .int .i64 p.2]
/-- What one round is handed. -/
def enS (ps : List (Int × Int)) (x : Nat) : Array Value := #[vP (pl ps x), vP (pl ps (x + 1))]
/-- The box of the list and the list's own cells stay. -/
def KpS (Bs g : Nat) (W W' : World) : Prop := W'.heap[Bs]? = W.heap[Bs]? ∧ W'.heap[g]? = W.heap[g]?
theorem kps_t {Ba Bb : Nat} {A B C : World} (h : KpS Ba Bb A B) (k : KpS Ba Bb B C) : KpS Ba Bb A C := ⟨k.1.trans h.1, k.2.trans h.2⟩
theorem kps_b {Ba Bb : Nat} {w : World} (hA : Ba < w.heap.size) (hB : Bb < w.heap.size) (W : World) (l : Nat) (o o' : Obj) (hl : w.heap.size ≤ l) (h : W.heap[l]? = some o) (h1 : o.isCells = false) (h2 : o.isWalk = false) : KpS Ba Bb W (W.putObj l o') := by
  have hg := grownBy_putObj' W l o'
  have hs := (Array.getElem?_eq_some_iff.1 h).1
  exact ⟨hg.block Ba (by omega) (fun e => by cases e; omega), hg.block Bb (by omega) (fun e => by cases e; omega)⟩
theorem kps_below {B Ba Bb : Nat} {W W' : World} (h : Below B W W') (hA : Ba < B) (hB : Bb < B) : KpS Ba Bb W W' := ⟨h.block Ba hA, h.block Bb hB⟩
theorem ptCells_kept {W W' : World} {g : Nat} {ps : List (Int × Int)} (h : PtCells W g 0 ps) (e : W'.heap[g]? = W.heap[g]?) : PtCells W' g 0 ps := fun i hi => by
  obtain ⟨a, b⟩ := h i hi
  exact ⟨(World.cell?_of_block (a := ⟨g, 0 + i * 2, none⟩) e).trans a, (World.cell?_of_block (a := ⟨g, 0 + i * 2 + 1, none⟩) e).trans b⟩
theorem grownBy_drewN0 (W : World) (k : Nat) : W.grownBy (World.drewN W k) none := by
  constructor
  all_goals first | rfl | exact Nat.le_refl _ | (intros; rfl)
theorem sides_any (a : Option Addr) (n c : Nat) (w : World) : Calls Try.prog 145 #[.slice a n c] w fun e w' => e = .returned (.func (.func 164) #[] #[.pointer (some ⟨w.heap.size, 0, none⟩)]) ∧ w' = w.alloc (.cells #[.slice a n c] 25) := by
  go_enter Try.func145, Try.ntmps145
  go_wp2
  go_ret
  exact ⟨rfl, rfl⟩
set_option maxRecDepth 100000 in
set_option maxHeartbeats 2000000 in
theorem sides1_in (n : Nat) (hn : 1 ≤ n) (l Bs g m cap : Nat) (ps : List (Int × Int)) (hps : ps.length = m) (hm : m ≤ 140737488351232) (hne : Bs ≠ g) (J Jx : List Nat → World → Prop)
    (hY : ∀ pre x W, x < m → J pre W → pre.length < m → YieldAt Fence.wide (n - 1) Try.prog l (enS ps x) W fun e W' =>
      (e = .returned (.bool true) ∧ J (pre ++ [x]) W' ∧ KpS Bs g W W') ∨ (e = .returned (.bool false) ∧ Jx (pre ++ [x]) W'))
    (W : World) (hA : W.cell? ⟨Bs, 0, none⟩ = some (.slice (some ⟨g, 0, none⟩) m cap)) (hB : PtCells W g 0 ps) (h0 : J [] W) (hJd : ∀ pre W k, J pre W → J pre (World.drewN W k)) (hJa : ∀ pre W o, J pre W → J pre (World.alloc W o)) :
    CallsIn Fence.wide n Try.prog 164 #[.func (.yield l) #[] #[], .pointer (some ⟨Bs, 0, none⟩)] W fun e W' => (∃ v, e = .returned v) ∧
      (J (List.range m) W' ∨ (∃ pre, Jx pre W')) := by
  refine callsIn_of_wp Try.func164 rfl trivial ?_ rfl
  simp only [Try.ntmps164, List.size_toArray, List.length_cons, List.length_nil, Nat.reduceAdd, Nat.reduceSub, Array.replicate_succ, Array.replicate_zero, List.push_toArray, List.append_toArray, List.nil_append, List.cons_append]
  have HB0 := Lib.hid hB
  have HPS := Lib.hid hps
  have HY := Lib.hid hY
  have HJ0 := Lib.hid h0
  clear hB hY h0 hps
  gi_wp2
  gi_loopw [7] (fun ti wr => ∃ (j : Nat), ti = .int .i64 (j : Int) ∧ j ≤ m ∧ J (List.range j) wr ∧ wr.cell? ⟨Bs, 0, none⟩ = some (.slice (some ⟨g, 0, none⟩) m cap) ∧ PtCells wr g 0 ps ∧ Bs < wr.heap.size) (fun ti _ => m - (intOf ti).toNat)
  case atStart => exact ⟨0, rfl, by omega, HJ0.out, hA, HB0.out, World.block_lt_of_cell? W _ hA⟩
  case round =>
    obtain ⟨j, rfl, hj, hJ, cA, cB, hlt⟩ := hrel
    have hpl := HPS.out
    by_cases hjm : j < m
    · obtain ⟨X0, X1, hX⟩ : ∃ x y, pl ps j = (x, y) := ⟨_, _, rfl⟩
      obtain ⟨Y0, Y1, hY1⟩ : ∃ x y, pl ps (j + 1) = (x, y) := ⟨_, _, rfl⟩
      have hk := Nat.mod_lt (j + 1) (show 0 < m by omega)
      have hqm : ((j : Int) + 1).tmod (m : Int) = (((j + 1) % m : Nat) : Int) := by rw [Int.tmod_eq_emod_of_nonneg (by omega)]; exact_mod_cast rfl
      obtain ⟨K, hK⟩ : ∃ K, (j + 1) % m = K := ⟨_, rfl⟩
      rw [hK] at hqm hk
      have a0 := cB j (by omega)
      have a1 := cB K (by omega)
      have e0 : ps.getD j (0, 0) = (X0, X1) := by rw [← hX, pl_lt (by omega)]
      have e1 : ps.getD K (0, 0) = (Y0, Y1) := by rw [← hY1]; unfold pl; rw [hpl, hK]
      rw [e0, Nat.zero_add] at a0
      rw [e1, Nat.zero_add] at a1
      obtain ⟨x0, x1⟩ := a0
      obtain ⟨y0, y1⟩ := a1
      have HCB := Lib.hid cB
      have HEN : Hid (enS ps j = #[.agg #[.int .i64 X0, .int .i64 X1], .agg #[.int .i64 Y0, .int .i64 Y1]]) := by
        show enS ps j = _
        unfold enS vP
        rw [hX, hY1]
      have glt := World.block_lt_of_cell? wr _ x0
      have q1 : (0 : Int) ≤ (j : Int) := by omega
      have q3 : (j : Int) < (m : Int) := by omega
      have q4 : (K : Int) < (m : Int) := by omega
      have q5 : (0 : Int) ≤ (K : Int) := by omega
      have q6 : ¬ (m : Int) = 0 := by omega
      have q7 : IntKind.i64.wrap ((j : Int) + 1) = (j : Int) + 1 := by rw [IntKind.wrap_i64]; omega
      have q9 : ¬ m = 0 := by omega
      have q8 : IntKind.i64.wrap (K : Int) = (K : Int) := by rw [IntKind.wrap_i64]; omega
      clear hX hY1 e0 e1 hK cB
      gi_wp2
      refine wpIn_region_wide_tail 10 (by kernel_rfl) (by kernel_rfl) ?_
      simp only [List.take_succ_cons, List.take_zero, List.drop_succ_cons, List.drop_zero]
      repeat still_step
      try refine wpStill_nil ?_
      obtain ⟨fn, tmps, assign, body, hy, hR⟩ := HY.out (List.range j) j ((wr.alloc (.cells #[.int .i64 X0, .int .i64 X1] 32)).drew) hjm (hJd _ _ 1 (hJa _ _ _ hJ)) (by simpa using hjm)
      rw [HEN.out] at hy
      gi_wp2
      refine hR.mono ?_
      rintro e W3 (⟨rfl, hJ3, hk1, hk2⟩ | ⟨rfl, hJx3⟩)
      · obtain ⟨hB3, hC3⟩ : W3.cell? ⟨Bs, 0, none⟩ = some (.slice (some ⟨g, 0, none⟩) m cap) ∧ PtCells W3 g 0 ps := by
          refine ⟨(World.cell?_of_block (a := ⟨Bs, 0, none⟩) hk1).trans ?_, ptCells_kept (W := (wr.alloc (.cells #[.int .i64 X0, .int .i64 X1] 32)).drew) ?_ hk2⟩
          · exact (World.cell?_of_block (w' := wr.alloc (.cells #[.int .i64 X0, .int .i64 X1] 32)) (a := ⟨Bs, 0, none⟩) (Below.heap_alloc wr (.cells #[.int .i64 X0, .int .i64 X1] 32) Bs hlt)).trans cA
          · exact ptCells_kept HCB.out (Below.heap_alloc wr (.cells #[.int .i64 X0, .int .i64 X1] 32) g glt)
        have hlt3 := World.block_lt_of_cell? W3 _ hB3
        clear hy hR hk1 hk2
        gi_wp2
        go_roundw
        case rel => exact ⟨j + 1, rfl, by omega, by rw [List.range_succ]; exact hJ3, hB3, hC3, hlt3⟩
        case measure => simp only [intOf]; omega
      · gi_wp2
        refine bodyPost_ret (results_none rfl _ _ _) rfl ?_
        exact ⟨⟨_, rfl⟩, .inr ⟨_, hJx3⟩⟩
    · obtain rfl : j = m := by omega
      have q1 : ¬ (j : Int) < (j : Int) := by omega
      gi_wp2
      go_end0
      exact ⟨⟨_, rfl⟩, .inl hJ⟩
theorem sides_stops (n : Nat) (hn : 1 ≤ n) (Bs g m cap : Nat) (ps : List (Int × Int)) (hps : ps.length = m) (hm : m ≤ 140737488351232) (hne : Bs ≠ g) (w : World) (hBs : Bs < w.heap.size) (hg : g < w.heap.size)
    (hA : w.cell? ⟨Bs, 0, none⟩ = some (.slice (some ⟨g, 0, none⟩) m cap)) (hB : PtCells w g 0 ps) :
    SeqStopsK Fence.wide n Try.prog 164 #[.pointer (some ⟨Bs, 0, none⟩)] (fun x : Fin m => enS ps x.val) (KpS Bs g) (fun ys => ys.map (·.val) = List.range m) (fun _ => True) m w := fun l J Jx W hW hJ hJx hY h0 => by
  refine (sides1_in n hn l Bs g m cap ps hps hm hne (fun pre W => ∃ ys : List (Fin m), ys.map (·.val) = pre ∧ J ys W) (fun pre W => ∃ ys : List (Fin m), Jx ys W) ?_ W ((hW.cell (p := ⟨Bs, 0, none⟩) hBs).trans hA) (ptCells_kept hB (hW.block g hg)) ⟨[], rfl, h0⟩ ?_ ?_).mono ?_
  · rintro pre x W1 hx ⟨ys, rfl, hJ1⟩ hlt
    refine (hY ys ⟨x, hx⟩ W1 hJ1 (by simpa using hlt)).mono ?_
    rintro e W' (⟨he, hj, hk⟩ | ⟨he, hj⟩)
    · exact .inl ⟨he, ⟨ys ++ [⟨x, hx⟩], by simp, hj⟩, hk⟩
    · exact .inr ⟨he, _, hj⟩
  · rintro pre W1 k ⟨ys, h1, h2⟩
    exact ⟨ys, h1, hJ ys W1 _ none h2 (grownBy_drewN0 W1 k) (fun r e => by cases e)⟩
  · rintro pre W1 o ⟨ys, h1, h2⟩
    exact ⟨ys, h1, hJ ys W1 _ none h2 (World.grownBy_alloc W1 o none) (fun r e => by cases e)⟩
  · rintro e W' ⟨hv, (⟨ys, h1, h2⟩ | ⟨_, ys, h2⟩)⟩
    · exact ⟨hv, .inl ⟨ys, h1, h2⟩⟩
    · exact ⟨hv, .inr ⟨ys, trivial, h2⟩⟩
end Go.Proofs.Ytmjhejmkmdgikaa
