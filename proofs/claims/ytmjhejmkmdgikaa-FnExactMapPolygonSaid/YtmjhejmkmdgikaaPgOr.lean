/-
  OrderPolygon in the program (own work).
-/
import Derived.Test.YtmjhejmkmdgikaaPgOq
namespace Go.Proofs.Ytmjhejmkmdgikaa
open Go.ChangeShapes Go.WideShapes Go.ChangeAt Go.RowKit
set_option linter.unusedVariables false
set_option maxRecDepth 100000
set_option linter.unusedSimpArgs false
set_option maxRecDepth 100000

theorem own_setCell {w : World} {base : Nat} {e : TypeId} {size : Nat} {v : Value} {n : Nat} {xs : List Value} (h : w.ownsRow base e size v n xs) (b o : Nat) (u : Value) (hne : b < base) : (w.setCell ⟨b, o, none⟩ u).ownsRow base e size v n xs := by
  refine h.kept (row := some b) ⟨rfl, rfl, rfl, by simp, fun k _ hk => heap_setCell_other w ⟨b, o, none⟩ k u (fun e => hk (by simp [e]))⟩ ?_
  cases h0 : v.ownBlock with
  | none => exact .inl rfl
  | some k => right; have := (h.lt k h0).1; simp; omega
theorem info_pts : (Try.prog.info? 25).map (fun i => (i.zero, i.size, i.bytes)) = some (some (.slice none 0 0), 1, 24) := by kernel_rfl
/-- The rotated lists that have been laid. -/
def lsV (gs cs : Nat → Nat) (n k : Nat) : List Value := (List.range n).map fun j => if j < k then .slice (some ⟨gs j, 0, none⟩) n (cs j) else .slice none 0 0
theorem lsV_len (gs cs : Nat → Nat) (n k : Nat) : (lsV gs cs n k).length = n := by simp [lsV]
theorem lsV_get (gs cs : Nat → Nat) {n k j : Nat} (hj : j < n) : (lsV gs cs n k)[j]? = some (if j < k then .slice (some ⟨gs j, 0, none⟩) n (cs j) else .slice none 0 0) := by
  simp [lsV, hj]
def upd (f : Nat → Nat) (k v : Nat) (j : Nat) : Nat := if j = k then v else f j
theorem lsV_set (gs cs : Nat → Nat) {n k : Nat} (g c : Nat) (hk : k < n) : (lsV gs cs n k).set k (.slice (some ⟨g, 0, none⟩) n c) = lsV (upd gs k g) (upd cs k c) n (k + 1) := by
  apply List.ext_getElem?
  intro j
  by_cases hj : j < n
  · rw [List.getElem?_set, lsV_get _ _ hj, lsV_get _ _ hj, lsV_len]
    by_cases e : k = j
    · subst e; simp [upd, hk]
    · have e2 : ¬ j = k := fun h => e h.symm
      rw [if_neg e]
      unfold upd
      rw [if_neg e2, if_neg e2]
      by_cases h : j < k
      · rw [if_pos h, if_pos (by omega)]
      · rw [if_neg h, if_neg (by omega)]
  · rw [List.getElem?_eq_none (by rw [List.length_set, lsV_len]; omega), List.getElem?_eq_none (by rw [lsV_len]; omega)]
theorem rotL_at {ps : List (Int × Int)} {i : Nat} (h : i < ps.length) : (rotL ps i).getD 0 (0, 0) = ps.getD i (0, 0) := by
  unfold rotL
  rw [List.getD_eq_getElem?_getD, List.getElem?_append_left (by rw [List.length_drop]; omega), List.getElem?_drop]
  simp [List.getD]
set_option maxHeartbeats 4000000 in
theorem orderedPolygon_any (g n cap : Nat) (ps : List (Int × Int)) (w : World) (h1 : 1 ≤ n) (hn : ps.length = n) (hm : n ≤ 12) (hcap : n ≤ cap) (hbig : cap ≤ maxLen) (hg : g < w.heap.size) (hc : PtCells w g 0 ps)
    (hd : ∀ i j, i < j → j < n → ps.getD j (0, 0) ≠ ps.getD i (0, 0)) :
    Calls Try.prog 109 #[.slice (some ⟨g, 0, none⟩) n cap] w (RetQ w (rotL ps (ixm ps n))) := by
  have HC := Lib.hid hc
  have HN := Lib.hid hn
  have HG := Lib.hid hg
  have HD := Lib.hid hd
  have HLT := Lib.hid (ixm_lt (ps := ps) h1 n (Nat.le_refl _))
  obtain ⟨i0, hi, hz0, hz1, hz2⟩ := info_parts info_pts
  clear hc hn hg hd
  go_enter Try.func109, Try.ntmps109
  go_wp2_with (refine wpList_make_full _ rfl _ _ 115 rfl w.heap.size 25 i0 (.slice none 0 0) 1 Try.underlying115 hi hz0 hz1 .i64 .i64 _ _ n rfl rfl rfl rfl (by rw [hz2]; omega) (by unfold maxLen; omega) (Nat.le_refl _) ?_; intro w4 hown hgr)
  have HO : Hid (w4.ownsRow w.heap.size 25 1 (.slice (some ⟨w.heap.size, 0, none⟩) n n) n (lsV (fun _ => 0) (fun _ => 0) n 0)) := by
    have e : (madeCells (Value.slice none 0 0).cells (n * 1)).toList = lsV (fun _ => 0) (fun _ => 0) n 0 := by
      apply List.ext_getElem
      · have := hown.1; simp only [lsV_len]; omega
      · intro i p1 p2
        simp [madeCells, Value.cells, Nat.mod_one, lsV]
    rw [← e]; exact hown
  have HB4 : Hid (Below w.heap.size w w4) := (Below.refl _ _).grown hgr (Nat.le_refl _) (fun k hk => by cases hk)
  have hs4 := (World.ownsRow.lt hown w.heap.size rfl).2
  clear hown hgr
  go_wp2_with fail
  have HRL : Hid (∀ j, j < n → (rotL ps j).length = n) := fun j hj => by rw [rotL_len ps (by have := HN.out; omega)]; exact HN.out
  have HCF : Hid (∀ k, k < n → ∀ W, Below w.heap.size w W → Calls Try.prog 136 #[.slice (some ⟨g, 0, none⟩) n cap, .int .i64 k] W fun e w' => ∃ gk ck, e = .returned (.slice (some ⟨gk, 0, none⟩) n ck) ∧ OwnF W.heap.size w' (.slice (some ⟨gk, 0, none⟩) n ck) n (flat (rotL ps k)) ∧ Below W.heap.size W w') := fun k hk W hW => by
    refine (cornersFrom_any g n cap k ps W HN.out (by omega) hk hcap hbig (by have := hW.size; have := HG.out; omega) (ptCells_kept HC.out (hW.block g HG.out))).mono ?_
    rintro e w' ⟨v, rfl, ho, hb⟩
    obtain ⟨va, vc, rfl, hv⟩ := own_viewF ho
    rw [HRL.out k hk] at ho hv
    obtain ⟨gk, rfl, _⟩ := hv (by omega)
    exact ⟨gk, vc, by rw [HRL.out k hk], ho, hb⟩
  go_loopw [10] (fun t10 wr => ∃ (k : Nat) (gs cs : Nat → Nat), k ≤ n ∧ t10 = .int .i64 k ∧ wr.ownsRow w.heap.size 25 1 (.slice (some ⟨w.heap.size, 0, none⟩) n n) n (lsV gs cs n k) ∧ (∀ j, j < k → OwnF (w.heap.size + 1) wr (.slice (some ⟨gs j, 0, none⟩) n (cs j)) n (flat (rotL ps j))) ∧ Below w.heap.size w wr) (fun t10 _ => n - (intOf t10).toNat)
  case atStart => exact ⟨0, fun _ => 0, fun _ => 0, by omega, by go_num, HO.out, fun j hj => by omega, HB4.out⟩
  case round =>
    obtain ⟨k, gs, cs, hk, rfl, hrow, hls, hbel⟩ := hrel
    have HRo := Lib.hid hrow
    have HLs := Lib.hid hls
    have HBr := Lib.hid hbel
    have hlr := (World.ownsRow.lt hrow w.heap.size rfl).2
    by_cases hlt : k < n
    · have q3 : (0 : Int) ≤ (k : Int) := by omega
      have q4 : (k : Int) < (n : Int) := by omega
      clear hrow hls hbel
      go_wp2_with (go_at_call 136; refine (HCF.out k hlt _ HBr.out).mono ?_; rintro e w5 ⟨gk, ck, rfl, ho5, hb5⟩; have HR5 := Lib.hid (own_below HRo.out hb5); have HO5 := Lib.hid ho5; have HB5 := Lib.hid hb5; have e2 := World.ownsRow.cellAt HR5.out k (by omega); rw [lsV_get _ _ hlt] at e2; have e3 := World.ownsRow.frozenAt HR5.out k; have l5 := (World.ownsRow.lt HR5.out w.heap.size rfl).2; clear ho5 hb5)
      have hst := (World.ownsRow.stored HR5.out k (.slice (some ⟨gk, 0, none⟩) n ck)).1
      rw [lsV_set gs cs gk ck hlt] at hst
      have HST := Lib.hid hst
      clear hst e2 e3
      go_roundw
      case rel =>
        refine ⟨k + 1, upd gs k gk, upd cs k ck, by omega, by go_num, HST.out, fun j hj => ?_, Below.setCell (below_after HB5.out HBr.out) (p := ⟨w.heap.size, k, none⟩) (Nat.le_refl _) _⟩
        refine own_setCell ?_ _ _ _ (by omega)
        by_cases e : j = k
        · subst e
          simp only [upd, if_true]
          exact own_lower HO5.out (by omega)
        · simp only [upd, if_neg e]
          exact own_below (HLs.out j (by omega)) HB5.out
      case measure => simp [intOf]; omega
    · have hkn : n = k := by omega
      subst hkn
      have q3 : ¬ (n : Int) < (n : Int) := by omega
      have HLL : Hid (Calls Try.prog 137 #[.slice (some ⟨w.heap.size, 0, none⟩) n n, .func (.func 138) #[] #[]] wr fun e w' => e = .returned (.slice (some ⟨gs (ixm ps n), 0, none⟩) n (cs (ixm ps n))) ∧ Below wr.heap.size wr w') :=
        leastList_any w.heap.size n n gs cs ps wr h1 hm hlr (fun j hj => by
          have ec := World.ownsRow.cellAt hrow j (by omega)
          rw [lsV_get _ _ hj, if_pos hj] at ec
          obtain ⟨xa, xc, hsl, hv⟩ := own_viewF (hls j hj)
          obtain ⟨gx, e1, _, _, hcv, _⟩ := hv (by omega)
          simp only [Value.slice.injEq] at hsl
          rw [← hsl.1] at e1
          simp only [Option.some.injEq, Addr.mk.injEq, and_true] at e1
          rw [← e1] at hcv
          obtain ⟨f0, f1⟩ := flat_at (rotL ps j) 0
          have r0 := rotL_at (ps := ps) (i := j) (by have := HN.out; omega)
          rw [r0] at f0 f1
          have c0 := hcv 0 (by omega)
          have c1 := hcv 1 (by omega)
          have f0 : (flat (rotL ps j)).getD 0 0 = (ps.getD j (0, 0)).1 := f0
          have f1 : (flat (rotL ps j)).getD 1 0 = (ps.getD j (0, 0)).2 := f1
          rw [f0] at c0
          rw [f1] at c1
          exact ⟨ec, c0, c1⟩) HD.out
      have HRJ := Lib.hid (HRL.out _ HLT.out)
      have HOJ := Lib.hid (hls _ HLT.out)
      clear hrow hls hbel
      go_wp2_with (go_at_call 137; refine HLL.out.mono ?_; rintro e w7 ⟨rfl, hb7⟩)
      go_ret
      exact ⟨_, rfl, by rw [HRJ.out]; exact own_lower (own_below HOJ.out hb7) (by omega), below_after hb7 HBr.out⟩
end Go.Proofs.Ytmjhejmkmdgikaa
