/-
  A list of int64 that came in, and its copy (own work).
-/
import Derived.Test.YthckbobbnkhnpaaMark
namespace Go.Proofs.Ythckbobbnkhnpaa
open Go.ChangeShapes Go.WideShapes Go.ChangeAt Go.RowKit
set_option linter.unusedVariables false
set_option linter.unusedSimpArgs false

/-- A slice of integers that came in: nil, or a row of 'cap' cells, the numbers 'zs'. -/
def IsRow (k : IntKind) (w : World) (a : Option Addr) (len cap : Nat) (zs : List Int) : Prop :=
  (a = none ∧ len = 0 ∧ cap = 0 ∧ zs = []) ∨
  ∃ x, a = some x ∧ len ≤ cap ∧ cap ≤ maxLen ∧ zs.length = cap ∧ (∀ i, i < zs.length → w.cell? (x.add i) = some (.int k (zs.getD i 0))) ∧ ∀ n ∈ zs, (Lit.int k n).wf = true
/-- The same, for the walk: where there is an element, a plain address and its cells. -/
theorem row_view {w : World} {a : Option Addr} {len cap : Nat} {zs : List Int} (h : IsRow .i64 w a len cap zs) (hp : 0 < len) :
    ∃ b off, a = some ⟨b, off, none⟩ ∧ b < w.heap.size ∧ (zs.take len).length = len ∧ ∀ j, j < len → w.cell? ⟨b, off + j, none⟩ = some (.int .i64 ((zs.take len).getD j 0)) := by
  rcases h with ⟨_, hl, _⟩ | ⟨x, rfl, hl, _, hz, hc, _⟩
  · omega
  · obtain ⟨b, off, rfl, hc'⟩ := ints_at hc (by omega)
    refine ⟨b, off, rfl, World.block_lt_of_cell? w _ (hc' 0 (by omega)), by simp; omega, fun j hj => ?_⟩
    rw [hc' j (by omega)]
    simp [List.getD, List.getElem?_take, hj]
set_option maxHeartbeats 800000 in
theorem toInt64S_any (a : Option Addr) (len cap : Nat) (zs : List Int) (w : World) (h : IsRow .i64 w a len cap zs) (hlen : len ≤ 1048576) :
    Calls Try.prog 14 #[.slice a len cap] w (RetI w (zs.take len)) := by
  obtain ⟨i0, hi, hz0, hz1, hz2⟩ := info_parts info_int
  by_cases hz : len = 0
  · subst hz
    clear h
    go_enter Try.func14, Try.ntmps14
    go_wp2_with (at_make; refine wpList_make_full _ rfl _ _ 34 rfl w.heap.size 2 i0 (.int .i64 0) 1 Try.underlying34 hi hz0 hz1 .i64 .i64 _ _ 0 rfl rfl rfl rfl (by rw [hz2]; omega) (by unfold maxLen; omega) (Nat.le_refl _) ?_; intro w1 hown hgr)
    have HO := Lib.hid hown
    have HB : Hid (Below w.heap.size w w1) := (Below.refl _ _).grown hgr (Nat.le_refl _) (fun k hk => by cases hk)
    clear hown hgr
    go_wp2
    refine wp_loop_rounds 1 ?_
    rw [rounds_succ]
    go_wp2
    go_ret
    refine ⟨_, rfl, ?_, HB.out⟩
    have := HO.out
    show World.ownsRow _ _ _ _ _ (zs.take 0).length _
    rw [List.take_zero]
    have e : (madeCells (Value.int .i64 0).cells (0 * 1)).toList = [] := List.length_eq_zero_iff.1 (by have := HO.out.1; omega)
    rw [e] at this
    exact this
  · obtain ⟨b, off, rfl, hbw, hl, hc⟩ := row_view h (by omega)
    have HC := Lib.hid hc
    have HL := Lib.hid hl
    clear h hc hl
    go_enter Try.func14, Try.ntmps14
    go_wp2_with (at_make; refine wpList_make_full _ rfl _ _ 34 rfl w.heap.size 2 i0 (.int .i64 0) 1 Try.underlying34 hi hz0 hz1 .i64 .i64 _ _ len rfl rfl rfl rfl (by rw [hz2]; omega) (by unfold maxLen; omega) (Nat.le_refl _) ?_; intro w1 hown hgr)
    have HO := Lib.hid hown
    have HB : Hid (Below w.heap.size w w1) := (Below.refl _ _).grown hgr (Nat.le_refl _) (fun k hk => by cases hk)
    obtain ⟨g, hg⟩ : ∃ g, g = w.heap.size := ⟨_, rfl⟩
    have HG := Lib.hid hg
    have hbg : b < g := by omega
    have hLen : Hid ((madeCells (Value.int .i64 0).cells (len * 1)).toList.length = len) := by have := hown.1; show _ = len; omega
    rw [← hg] at HO ⊢
    clear hown hgr hg hz
    go_wp2
    go_loopw [4] (fun i wr => ∃ (k : Nat) (ys : List Value), k ≤ len ∧ i = .int .i64 k ∧ ys.length = len ∧ wr.ownsRow g 2 1 (.slice (some ⟨g, 0, none⟩) len len) len ys ∧ (∀ j, j < k → ys[j]? = some (.int .i64 ((zs.take len).getD j 0))) ∧ Below w.heap.size w wr) (fun i _ => len - (intOf i).toNat)
    case atStart => exact ⟨0, _, by omega, rfl, hLen.out, HO.out, fun j hj => by omega, HB.out⟩
    case round =>
      obtain ⟨k, ys, hk, rfl, hyl, hown, hys, hbel⟩ := hrel
      have HW := Lib.hid hown
      have HY := Lib.hid hys
      have HYL := Lib.hid hyl
      clear hown hys hyl
      by_cases hlt : k < len
      · have e1 := (hbel.cell (p := ⟨b, off + k, none⟩) hbw).trans (HC.out k hlt)
        obtain ⟨x, hx⟩ : ∃ x, (zs.take len).getD k 0 = x := ⟨_, rfl⟩
        rw [hx] at e1
        have HX := Lib.hid hx
        have e2 := World.ownsRow.cellAt HW.out k (by omega)
        have e3 := World.ownsRow.frozenAt HW.out k
        have hst := World.ownsRow.stored HW.out k (.int .i64 x)
        have S1 := Lib.hid hst.1
        have S2 := Lib.hid hst.2
        obtain ⟨old, hold⟩ : ∃ old, ys[k]? = some old := ⟨_, List.getElem?_eq_getElem (by rw [HYL.out]; exact hlt)⟩
        rw [hold] at e2
        have HB2 : Hid (Below w.heap.size w (wr.setCell ⟨g, k, none⟩ (.int .i64 x))) := hbel.setCell (by show w.heap.size ≤ g; rw [HG.out]; exact Nat.le_refl _) _
        clear hst hold hx
        go_wp2
        go_roundw
        case rel =>
          refine ⟨k + 1, _, by omega, by go_num, ?_, S1.out, fun j hj => ?_, HB2.out⟩
          · rw [List.length_set]; exact HYL.out
          · by_cases hjk : j = k
            · subst hjk
              rw [List.getElem?_set_self (by rw [HYL.out]; exact hlt), HX.out]
            · rw [List.getElem?_set_ne (by omega)]
              exact HY.out j (by omega)
        case measure => simp [intOf]; omega
      · have hge : len ≤ k := by omega
        clear hlt
        go_wp2
        go_ret
        refine ⟨_, rfl, ?_, hbel⟩
        show World.ownsRow _ _ _ _ _ (zs.take len).length _
        have hys : ys = (zs.take len).map (Value.int .i64) := by
          apply List.ext_getElem?
          intro j
          by_cases hj : j < len
          · rw [HY.out j (by omega), List.getElem?_map, List.getElem?_eq_getElem (by rw [HL.out]; exact hj)]
            simp [List.getD, HL.out, hj]
          · rw [List.getElem?_eq_none (by rw [HYL.out]; omega), List.getElem?_eq_none (by rw [List.length_map, HL.out]; omega)]
        rw [HL.out, ← hys, ← HG.out]
        exact HW.out
end Go.Proofs.Ythckbobbnkhnpaa
