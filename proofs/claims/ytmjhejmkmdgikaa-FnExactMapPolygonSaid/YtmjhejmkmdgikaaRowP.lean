/-
  A list of points (pairs of int64) that came in, its size and its copy (own work).
-/
import Derived.Test.YtmjhejmkmdgikaaPtL
import Derived.Test.YtmjhejmkmdgikaaOpen
namespace Go.Proofs.Ytmjhejmkmdgikaa
open Go.ChangeShapes Go.WideShapes Go.ChangeAt Go.RowKit
set_option linter.unusedVariables false
set_option maxRecDepth 100000
set_option linter.unusedSimpArgs false
set_option maxRecDepth 100000

/-- A slice of pairs that came in: len points, where there is one, in plain cells. -/
def RowP (w : World) (a : Option Addr) (len : Nat) (ps : List (Int × Int)) : Prop :=
  ps.length = len ∧ (0 < len → ∃ b off, a = some ⟨b, off, none⟩ ∧ b < w.heap.size ∧ PtCells w b off ps)
theorem add_one' (x : Addr) (n : Nat) : (x.add n).add 1 = x.add (n + 1) := by
  unfold Addr.add
  by_cases hn : n = 0
  · simp [hn]
  · simp [hn, Nat.add_assoc]
theorem open_rowp {H : Type} {enc : TypeId × Value → H} {W : World} {a : Option Addr} {len cap : Nat} {d : DataW H} {p : List MemPlace}
    (h : DataW.Trod enc Try.prog W 0 (fun _ => true) true 58 (.slice a len cap) d p) : ∃ ps, RowP W a len ps ∧ len ≤ maxLen := by
  have c2 : Try.prog.cellsOf 2 = 1 := by kernel_rfl
  have c22 : Try.prog.cellsOf 31 = 2 := by kernel_rfl
  obtain ⟨fuel, hf⟩ := h
  rcases DataW.trod_slice Try.underlying58 hf with ⟨hcs, _⟩ | ⟨x, l, c, elems, rest, n, _, hcs, _, hb, hl, hm, hlen, hel, _, _⟩
  · simp [Value.cells] at hcs
    obtain ⟨rfl, rfl, rfl⟩ := hcs
    exact ⟨[], ⟨rfl, fun h => by omega⟩, by omega⟩
  · simp [Value.cells] at hcs
    obtain ⟨rfl, rfl, rfl⟩ := hcs
    have each : ∀ i, i < len → ∃ z0 z1 : Int, W.cell? (x.add (i * 2)) = some (.int .i64 z0) ∧ W.cell? (x.add (i * 2 + 1)) = some (.int .i64 z1) := by
      intro i hi
      have h1 := hel i hi
      rw [c22, List.getElem?_eq_getElem (by omega), Option.bind_eq_some_iff] at h1
      obtain ⟨cs', hc1, hc2⟩ := h1
      obtain ⟨_, hcl, hcell⟩ := World.cells?_some hc1
      match cs', hcl with
      | [q0, q1], _ =>
        obtain ⟨ys, m, _, _, _, hyl, hyf⟩ := DataW.trod_array Try.underlying31 hc2
        match ys, hyl with
        | [y0, y1], _ =>
          have g0 := hyf 0 (by omega)
          have g1 := hyf 1 (by omega)
          simp [c2] at g0 g1
          obtain ⟨z0, e0, _, _⟩ := DataW.trod_int Try.underlying2 g0
          obtain ⟨z1, e1, _, _⟩ := DataW.trod_int Try.underlying2 g1
          simp at e0 e1
          subst e0 e1
          have k0 := hcell 0 (by omega)
          have k1 := hcell 1 (by omega)
          have a0 : (x.add (i * 2)).add 0 = x.add (i * 2) := by simp [Addr.add]
          have a1 : (x.add (i * 2)).add 1 = x.add (i * 2 + 1) := add_one' x (i * 2)
          rw [a0] at k0
          rw [a1] at k1
          exact ⟨z0, z1, by simpa using k0, by simpa using k1⟩
    have each2 : ∀ j, ∃ z : Int, j < len * 2 → W.cell? (x.add j) = some (.int .i64 z) := by
      intro j
      by_cases hj : j < len * 2
      · obtain ⟨z0, z1, e0, e1⟩ := each (j / 2) (by omega)
        by_cases hm2 : j % 2 = 0
        · exact ⟨z0, fun _ => by rw [show j / 2 * 2 = j by omega] at e0; exact e0⟩
        · exact ⟨z1, fun _ => by rw [show j / 2 * 2 + 1 = j by omega] at e1; exact e1⟩
      · exact ⟨0, fun h => absurd h hj⟩
    obtain ⟨f, hfz⟩ := Classical.axiomOfChoice each2
    refine ⟨(List.range len).map fun i => (f (i * 2), f (i * 2 + 1)), ⟨by simp, fun hp => ?_⟩, by omega⟩
    have hz : ∀ i, i < ((List.range (len * 2)).map f).length → W.cell? (x.add i) = some (.int .i64 (((List.range (len * 2)).map f).getD i 0)) := by
      intro i hi
      have hi2 : i < len * 2 := by simpa using hi
      rw [hfz i hi2]
      simp [List.getD, hi2]
    obtain ⟨b, off, rfl, hc⟩ := ints_at hz (by simp; omega)
    refine ⟨b, off, rfl, World.block_lt_of_cell? W _ (hc 0 (by simp; omega)), fun i hi => ?_⟩
    have hi2 : i < len := by simpa using hi
    have g0 := hc (i * 2) (by simp; omega)
    have g1 := hc (i * 2 + 1) (by simp; omega)
    have b0 : i * 2 < len * 2 := by omega
    have b1 : i * 2 + 1 < len * 2 := by omega
    refine ⟨?_, ?_⟩
    · rw [g0]; simp [List.getD, hi2, b0]
    · rw [show off + i * 2 + 1 = off + (i * 2 + 1) by omega, g1]; simp [List.getD, hi2, b1]
theorem RowP.below {W W' : World} {a : Option Addr} {len : Nat} {ps : List (Int × Int)} (h : RowP W a len ps) (hb : Below W.heap.size W W') : RowP W' a len ps := by
  refine ⟨h.1, fun hp => ?_⟩
  obtain ⟨b, off, rfl, hl, hc⟩ := h.2 hp
  exact ⟨b, off, rfl, Nat.lt_of_lt_of_le hl hb.size, fun i hi => ⟨((bcell hb).1 _ _ hl).trans (hc i hi).1, ((bcell hb).1 _ _ hl).trans (hc i hi).2⟩⟩
theorem flat_getD : ∀ (ps : List (Int × Int)) (k : Nat), (flat ps).getD (k * 2) 0 = (ps.getD k (0, 0)).1 ∧ (flat ps).getD (k * 2 + 1) 0 = (ps.getD k (0, 0)).2
  | [], k => by simp [flat]
  | p :: l, 0 => by simp [flat]
  | p :: l, k + 1 => by
    have e : flat (p :: l) = p.1 :: p.2 :: flat l := rfl
    have := flat_getD l k
    rw [e, show (k + 1) * 2 = k * 2 + 1 + 1 by omega, show k * 2 + 1 + 1 + 1 = (k * 2 + 1) + 1 + 1 by omega]
    simpa using this
def RetP (w : World) (n : Nat) (zs : List Int) (e : Ending) (w' : World) : Prop := ∃ v, e = .returned v ∧ OwnF w.heap.size w' v n zs ∧ Below w.heap.size w w'
set_option maxHeartbeats 1600000 in
theorem toPointS_any (a : Option Addr) (len cap : Nat) (ps : List (Int × Int)) (w : World) (h : RowP w a len ps) (hlen : len ≤ 1048576) :
    Calls Try.prog 57 #[.slice a len cap] w (RetP w len (flat ps)) := by
  obtain ⟨i0, hi, hz0, hz1, hz2⟩ := info_parts info_pt
  obtain ⟨hpl, hpc⟩ := h
  by_cases hz : len = 0
  · subst hz
    have hps : ps = [] := List.length_eq_zero_iff.1 hpl
    subst hps
    clear hpl hpc
    go_enter Try.func57, Try.ntmps57
    go_wp2_with (at_make; refine wpList_make_full _ rfl _ _ 25 rfl w.heap.size 32 i0 (.agg #[.int .i64 0, .int .i64 0]) 2 Try.underlying25 hi hz0 hz1 .i64 .i64 _ _ 0 rfl rfl rfl rfl (by rw [hz2]; omega) (by unfold maxLen; omega) (Nat.le_refl _) ?_; intro w1 hown hgr)
    have HO := Lib.hid hown
    have HB : Hid (Below w.heap.size w w1) := (Below.refl _ _).grown hgr (Nat.le_refl _) (fun k hk => by cases hk)
    clear hown hgr
    go_wp2
    refine wp_loop_rounds 1 ?_
    rw [rounds_succ]
    go_wp2
    go_ret
    refine ⟨_, rfl, ?_, HB.out⟩
    have e : (madeCells (Value.agg #[.int .i64 0, .int .i64 0]).cells (0 * 2)).toList = [] := List.length_eq_zero_iff.1 (by have := HO.out.1; omega)
    have := HO.out
    rw [e] at this
    exact this
  · obtain ⟨b, off, rfl, hbw, hc⟩ := hpc (by omega)
    have HC := Lib.hid hc
    have HPL := Lib.hid hpl
    clear hpc hc hpl
    go_enter Try.func57, Try.ntmps57
    go_wp2_with (at_make; refine wpList_make_full _ rfl _ _ 25 rfl w.heap.size 32 i0 (.agg #[.int .i64 0, .int .i64 0]) 2 Try.underlying25 hi hz0 hz1 .i64 .i64 _ _ len rfl rfl rfl rfl (by rw [hz2]; omega) (by unfold maxLen; omega) (Nat.le_refl _) ?_; intro w1 hown hgr)
    have HO := Lib.hid hown
    have HB : Hid (Below w.heap.size w w1) := (Below.refl _ _).grown hgr (Nat.le_refl _) (fun k hk => by cases hk)
    obtain ⟨g, hg⟩ : ∃ g, g = w.heap.size := ⟨_, rfl⟩
    have HG := Lib.hid hg
    have hbg : b < g := by omega
    have hLen : Hid ((madeCells (Value.agg #[.int .i64 0, .int .i64 0]).cells (len * 2)).toList.length = len * 2) := by have := hown.1; show _ = len * 2; omega
    rw [← hg] at HO ⊢
    clear hown hgr hg hz
    go_wp2
    go_loopw [4] (fun i wr => ∃ (k : Nat) (ys : List Value), k ≤ len ∧ i = .int .i64 k ∧ ys.length = len * 2 ∧ wr.ownsRow g 32 2 (.slice (some ⟨g, 0, none⟩) len len) len ys ∧ (∀ j, j < k * 2 → ys[j]? = some (.int .i64 ((flat ps).getD j 0))) ∧ Below w.heap.size w wr) (fun i _ => len - (intOf i).toNat)
    case atStart => exact ⟨0, _, by omega, rfl, hLen.out, HO.out, fun j hj => by omega, HB.out⟩
    case round =>
      obtain ⟨k, ys, hk, rfl, hyl, hown, hys, hbel⟩ := hrel
      have HW := Lib.hid hown
      have HY := Lib.hid hys
      have HYL := Lib.hid hyl
      have HBL := Lib.hid hbel
      clear hown hys hyl
      by_cases hlt : k < len
      · obtain ⟨d1, d2⟩ := HC.out k (by rw [HPL.out]; exact hlt)
        obtain ⟨⟨x, y⟩, hxy⟩ : ∃ p, ps.getD k (0, 0) = p := ⟨_, rfl⟩
        rw [hxy] at d1 d2
        have HXY := Lib.hid hxy
        have HWR : Hid (∀ W', Below wr.heap.size wr W' → W'.ownsRow g 32 2 (.slice (some ⟨g, 0, none⟩) len len) len ys) := fun W' hB => own_below HW.out hB
        have e1 := (hbel.cell (p := ⟨b, off + k * 2, none⟩) hbw).trans d1
        have e2 := (hbel.cell (p := ⟨b, off + k * 2 + 1, none⟩) hbw).trans d2
        have i0' : (0 : Int) ≤ (k : Int) := by omega
        have i1 : (k : Int) < (len : Int) := by omega
        have hk1 : k * 2 < ys.length := by rw [HYL.out]; omega
        have hk2 : k * 2 + 1 < ys.length := by rw [HYL.out]; omega
        have HK1 := Lib.hid hk1
        have HK2 := Lib.hid hk2
        have HLT := Lib.hid hlt
        clear hxy d1 d2 hbel hk1 hk2
        dsimp only at e1 e2
        go_wp2_with (go_at_call 44; refine (toPoint_any _ _ _).mono ?_; rintro e wc ⟨rfl, hbc⟩; refine Hid.out ?_)
        refine Lib.hid ?_
        have hwr := HWR.out wc hbc
        have f1 := World.ownsRow.cellAt hwr (k * 2) (by have := HK1.out; rw [HYL.out] at this; exact this)
        have f2 := World.ownsRow.cellAt hwr (k * 2 + 1) (by have := HK2.out; rw [HYL.out] at this; exact this)
        have f3 := World.ownsRow.frozenAt hwr (k * 2)
        have f4 := World.ownsRow.frozenAt hwr (k * 2 + 1)
        rw [List.getElem?_eq_getElem HK1.out] at f1
        rw [List.getElem?_eq_getElem HK2.out] at f2
        have st1 := World.ownsRow.stored hwr (k * 2) (.int .i64 x)
        have st2 := World.ownsRow.stored st1.1 (k * 2 + 1) (.int .i64 y)
        have S1 := Lib.hid st2.1
        have HB2 : Hid (Below w.heap.size w ((wc.setCell ⟨g, k * 2, none⟩ (.int .i64 x)).setCell ⟨g, k * 2 + 1, none⟩ (.int .i64 y))) := ((below_after hbc HBL.out).setCell (by show w.heap.size ≤ g; rw [HG.out]; exact Nat.le_refl _) _).setCell (by show w.heap.size ≤ g; rw [HG.out]; exact Nat.le_refl _) _
        clear st1 st2 hwr
        go_wp2
        go_roundw
        case rel =>
          refine ⟨k + 1, _, by have := HLT.out; omega, by go_num, ?_, S1.out, fun j hj => ?_, HB2.out⟩
          · rw [List.length_set, List.length_set]; exact HYL.out
          · obtain ⟨fl1, fl2⟩ := flat_getD ps k
            rw [HXY.out] at fl1 fl2
            by_cases hj1 : j = k * 2 + 1
            · subst hj1
              rw [List.getElem?_set_self (by rw [List.length_set]; exact HK2.out), fl2]
            · rw [List.getElem?_set_ne (by omega)]
              by_cases hj0 : j = k * 2
              · subst hj0
                rw [List.getElem?_set_self HK1.out, fl1]
              · rw [List.getElem?_set_ne (by omega)]
                exact HY.out j (by omega)
        case measure => have := HLT.out; simp [intOf]; omega
      · have hge : k = len := by omega
        clear hlt hbel
        go_wp2
        go_ret
        refine ⟨_, rfl, ?_, HBL.out⟩
        show World.ownsRow _ _ _ _ _ _ _
        have hys : ys = (flat ps).map (Value.int .i64) := by
          have hfl : (flat ps).length = len * 2 := by rw [flat_len, HPL.out]
          apply List.ext_getElem?
          intro j
          by_cases hj : j < len * 2
          · rw [HY.out j (by omega), List.getElem?_map, List.getElem?_eq_getElem (by rw [hfl]; exact hj)]
            simp [List.getD, hfl, hj]
          · rw [List.getElem?_eq_none (by rw [HYL.out]; omega), List.getElem?_eq_none (by rw [List.length_map, hfl]; omega)]
        rw [← hys, ← HG.out]
        exact HW.out
theorem szPointS_any (a : Option Addr) (len cap : Nat) (w : World) (hl : len ≤ 9223372036854775807) :
    Calls Try.prog 54 #[.slice a len cap, .int .i64 1048576] w fun e w' => e = .returned (.int .i64 (if (1048576 : Int) < len then -1 else 1048576 - len)) ∧ w = w' := by
  by_cases h : (1048576 : Int) < len
  · rw [if_pos h]
    have i1 : (1048576 : Int) - len < 0 := by omega
    have i2 : IntKind.i64.wrap ((1048576 : Int) - len) = 1048576 - len := by rw [IntKind.wrap_i64]; omega
    go_enter Try.func54, Try.ntmps54
    go_wp2
    go_ret
    exact ⟨rfl, rfl⟩
  · rw [if_neg h]
    have i1 : ¬ (1048576 : Int) - len < 0 := by omega
    have i2 : IntKind.i64.wrap ((1048576 : Int) - len) = 1048576 - len := by rw [IntKind.wrap_i64]; omega
    go_enter Try.func54, Try.ntmps54
    go_wp2
    go_ret
    exact ⟨rfl, rfl⟩
end Go.Proofs.Ytmjhejmkmdgikaa
