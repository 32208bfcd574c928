/-
  Lists of triples (own work).
-/
import Derived.Test.YtbgifgfegndlkaaTrU
import Derived.Test.YtbgifgfegndlkaaMark
namespace Go.Proofs.Ytbgifgfegndlkaa
open Go.ChangeShapes Go.WideShapes Go.ChangeAt Go.RowKit
set_option linter.unusedVariables false
set_option linter.unusedSimpArgs false
set_option maxRecDepth 100000

/-- A triple as a value; its numbers. -/
def aggT (x : T3) : Value := .agg #[.int .i64 x.1, .int .i64 x.2.1, .int .i64 x.2.2]
def flT : List T3 → List Int
  | [] => []
  | x :: l => x.1 :: x.2.1 :: x.2.2 :: flT l
theorem flT_append : ∀ (l m : List T3), flT (l ++ m) = flT l ++ flT m
  | [], _ => rfl
  | x :: l, m => by
    show x.1 :: x.2.1 :: x.2.2 :: flT (l ++ m) = x.1 :: x.2.1 :: x.2.2 :: (flT l ++ flT m)
    rw [flT_append l m]
theorem flT_len : ∀ (l : List T3), (flT l).length = l.length * 3
  | [] => rfl
  | x :: l => by
    show (flT l).length + 1 + 1 + 1 = (l.length + 1) * 3
    rw [flT_len l]; omega
theorem flT_at : ∀ (l : List T3) (k : Nat) (x : T3), l[k]? = some x → (flT l).getD (k * 3) 0 = x.1 ∧ (flT l).getD (k * 3 + 1) 0 = x.2.1 ∧ (flT l).getD (k * 3 + 1 + 1) 0 = x.2.2
  | [], k, x, h => by simp at h
  | y :: l, 0, x, h => by
    simp at h
    subst h
    exact ⟨rfl, rfl, rfl⟩
  | y :: l, k + 1, x, h => by
    have ih := flT_at l k x (by simpa using h)
    have e : (k + 1) * 3 = k * 3 + 1 + 1 + 1 := by omega
    rw [e]
    exact ih
/-- A list of n records that lies in blocks from B on, its numbers one behind the other. -/
def OwnTr (B : Nat) (w : World) (v : Value) (n : Nat) (zs : List Int) : Prop := w.ownsRow B 24 3 v n (zs.map (Value.int .i64))
theorem OwnTr.below {B : Nat} {w w' : World} {v : Value} {n : Nat} {zs : List Int} (h : OwnTr B w v n zs) (hb : Below w.heap.size w w') : OwnTr B w' v n zs := own_below h hb
theorem OwnTr.len {B : Nat} {w : World} {v : Value} {n : Nat} {zs : List Int} (h : OwnTr B w v n zs) : zs.length = n * 3 := by
  have := h.1
  rwa [List.length_map] at this
theorem viewOwnTr {B : Nat} {w : World} {v : Value} {n : Nat} {zs : List Int} (h : OwnTr B w v n zs) :
    ∃ (a : Option Addr) (cap : Nat), v = .slice a n cap ∧ (0 < n → ∃ g, a = some ⟨g, 0, none⟩ ∧ B ≤ g ∧ g < w.heap.size ∧ (∀ j, j < n * 3 → w.cell? ⟨g, j, none⟩ = some (.int .i64 (zs.getD j 0))) ∧ (∀ j, w.frozen? ⟨g, j, none⟩ = false)) := by
  have h0 := h
  have hl := h.len
  rcases h.2 with ⟨rfl, hn⟩ | ⟨g, cap, cur, rfl, hb, hg, _⟩
  · exact ⟨none, 0, by rw [hn], fun hp => by omega⟩
  · refine ⟨some ⟨g, 0, none⟩, cap, rfl, fun _ => ⟨g, rfl, hb, (Array.getElem?_eq_some_iff.1 hg).1, fun j hj => ?_, fun j => World.ownsRow.frozenAt h0 j⟩⟩
    have := World.ownsRow.cellAt h0 j (by omega)
    have hj2 : j < zs.length := by omega
    rw [this, List.getElem?_map, List.getElem?_eq_getElem hj2]
    simp [List.getD, hj2]
set_option maxHeartbeats 1600000 in
theorem eqTripleS_same (B1 B2 : Nat) (v1 v2 : Value) (n : Nat) (zs : List Int) (w : World) (h1 : OwnTr B1 w v1 n zs) (h2 : OwnTr B2 w v2 n zs) (hx : n ≤ 140737488351232) :
    Calls Try.prog 28 #[v1, v2] w fun e w' => e = .returned (.bool true) ∧ Below w.heap.size w w' := by
  obtain ⟨a1, c1, rfl, f1⟩ := viewOwnTr h1
  obtain ⟨a2, c2, rfl, f2⟩ := viewOwnTr h2
  clear h1 h2
  by_cases hz : n = 0
  · subst hz
    clear f1 f2
    go_enter Try.func28, Try.ntmps28
    go_wp2
    refine wp_loop_rounds 1 ?_
    rw [rounds_succ]
    go_wp2
    go_ret
    exact ⟨rfl, by (repeat' (first | (with_reducible exact Below.refl _ _) | (with_reducible refine Below.alloc ?_ ?_ _) | (with_reducible refine Below.setCell ?_ ?_ _) | (with_reducible refine Below.drew ?_) | (with_reducible refine below_drewN ?_ _) | (with_reducible assumption) | (with_reducible refine below_after (by with_reducible assumption) ?_) | go_size))⟩
  · obtain ⟨g1, rfl, _, hg1, hc1, _⟩ := f1 (by omega)
    obtain ⟨g2, rfl, _, hg2, hc2, _⟩ := f2 (by omega)
    have HC1 := Lib.hid hc1
    have HC2 := Lib.hid hc2
    clear f1 f2 hc1 hc2 hz
    go_enter Try.func28, Try.ntmps28
    go_wp2
    go_loopw [5] (fun i wr => ∃ k : Nat, k ≤ n ∧ i = .int .i64 k ∧ Below w.heap.size w wr) (fun i _ => n - (intOf i).toNat)
    case atStart => exact ⟨0, by omega, rfl, Below.refl _ _⟩
    case round =>
      obtain ⟨k, hk, rfl, hbel⟩ := hrel
      by_cases hlt : k < n
      · skip
        have e0 := (hbel.cell (p := ⟨g1, k * 3, none⟩) hg1).trans (HC1.out (k * 3) (by omega))
        have f0 := (hbel.cell (p := ⟨g2, k * 3, none⟩) hg2).trans (HC2.out (k * 3) (by omega))
        obtain ⟨z0, hz0⟩ : ∃ x, zs.getD (k * 3) 0 = x := ⟨_, rfl⟩
        rw [hz0] at e0 f0
        have e1 := (hbel.cell (p := ⟨g1, k * 3 + 1, none⟩) hg1).trans (HC1.out (k * 3 + 1) (by omega))
        have f1 := (hbel.cell (p := ⟨g2, k * 3 + 1, none⟩) hg2).trans (HC2.out (k * 3 + 1) (by omega))
        obtain ⟨z1, hz1⟩ : ∃ x, zs.getD (k * 3 + 1) 0 = x := ⟨_, rfl⟩
        rw [hz1] at e1 f1
        have e2 := (hbel.cell (p := ⟨g1, k * 3 + 2, none⟩) hg1).trans (HC1.out (k * 3 + 2) (by omega))
        have f2 := (hbel.cell (p := ⟨g2, k * 3 + 2, none⟩) hg2).trans (HC2.out (k * 3 + 2) (by omega))
        obtain ⟨z2, hz2⟩ : ∃ x, zs.getD (k * 3 + 2) 0 = x := ⟨_, rfl⟩
        rw [hz2] at e2 f2
        clear hz0 hz1 hz2
        have i0 : (0 : Int) ≤ (k : Int) := by omega
        have i1 : (k : Int) < (n : Int) := by omega
        go_wp2
        go_region_with (go_at_call 21; refine (eqTriple_same _ _ _ _).mono ?_; rintro e wn ⟨rfl, hbn⟩)
        all_goals
          go_wp2
          go_roundw
          case rel => exact ⟨k + 1, by omega, by go_num, below_after hbn (by (repeat' (first | (with_reducible exact Below.refl _ _) | (with_reducible refine Below.alloc ?_ ?_ _) | (with_reducible refine Below.setCell ?_ ?_ _) | (with_reducible refine Below.drew ?_) | (with_reducible refine below_drewN ?_ _) | (with_reducible assumption) | (with_reducible refine below_after (by with_reducible assumption) ?_) | go_size)))⟩
          case measure => simp [intOf]; omega
      · have hge : n ≤ k := by omega
        clear hlt
        go_wp2
        go_ret
        exact ⟨rfl, by (repeat' (first | (with_reducible exact Below.refl _ _) | (with_reducible refine Below.alloc ?_ ?_ _) | (with_reducible refine Below.setCell ?_ ?_ _) | (with_reducible refine Below.drew ?_) | (with_reducible refine below_drewN ?_ _) | (with_reducible assumption) | (with_reducible refine below_after (by with_reducible assumption) ?_) | go_size))⟩
set_option maxHeartbeats 3200000 in
theorem markTripleS_any (B : Nat) (v : Value) (n : Nat) (zs : List Int) (k0 : Int) (w : World) (h : OwnTr B w v n zs) (hk : 0 ≤ k0) (hk2 : k0 ≤ 4611686018427387904) (hx : n ≤ 140737488351232) :
    Calls Try.prog 29 #[v, .int .i64 k0] w fun e w' => e = .returned (.int .i64 (k0 + n * 3)) ∧ OwnTr B w' v n (marks k0 (n * 3)) ∧ w.grownBy w' v.ownBlock := by
  have h0 := h
  have hzl := h.len
  obtain ⟨a, cap, rfl, f⟩ := viewOwnTr h
  by_cases hz : n = 0
  · subst hz
    have hxs : zs = [] := List.length_eq_zero_iff.1 (by omega)
    subst hxs
    clear f
    have HO := Lib.hid h0
    clear h h0
    go_enter Try.func29, Try.ntmps29
    go_wp2
    refine wp_loop_rounds 1 ?_
    rw [rounds_succ]
    go_wp2
    go_ret
    exact ⟨ret_int (by simp), HO.out, World.grownBy.refl _ _⟩
  · obtain ⟨g, rfl, hBg, hg, hc, _⟩ := f (by omega)
    have HO := Lib.hid h0
    have HN := Lib.hid hzl
    clear f hc hz h h0 hzl
    go_enter Try.func29, Try.ntmps29
    go_wp2
    go_loopw [1, 5] (fun m i wr => ∃ k : Nat, k ≤ n ∧ i = .int .i64 k ∧ m = .int .i64 (k0 + k * 3) ∧ OwnTr B wr (.slice (some ⟨g, 0, none⟩) n cap) n (marks k0 (k * 3) ++ zs.drop (k * 3)) ∧ w.grownBy wr (some g)) (fun _ i _ => n - (intOf i).toNat)
    case atStart => exact ⟨0, by omega, rfl, by go_num, HO.out, World.grownBy.refl _ _⟩
    case round =>
      obtain ⟨k, hk3, rfl, rfl, hown, hgr⟩ := hrel
      have HW := Lib.hid hown
      have HG := Lib.hid hgr
      clear hown hgr
      by_cases hlt : k < n
      · have hl : (marks k0 (k * 3) ++ zs.drop (k * 3)).length = n * 3 := HW.out.len
        have c0 := World.ownsRow.cellAt HW.out (k * 3) (by omega)
        have f0 := World.ownsRow.frozenAt HW.out (k * 3)
        obtain ⟨o0, ho0⟩ : ∃ o, ((marks k0 (k * 3) ++ zs.drop (k * 3)).map (Value.int .i64))[k * 3]? = some o := ⟨_, List.getElem?_eq_getElem (by rw [List.length_map, hl]; omega)⟩
        rw [ho0] at c0
        have c1 := World.ownsRow.cellAt HW.out (k * 3 + 1) (by omega)
        have f1 := World.ownsRow.frozenAt HW.out (k * 3 + 1)
        obtain ⟨o1, ho1⟩ : ∃ o, ((marks k0 (k * 3) ++ zs.drop (k * 3)).map (Value.int .i64))[k * 3 + 1]? = some o := ⟨_, List.getElem?_eq_getElem (by rw [List.length_map, hl]; omega)⟩
        rw [ho1] at c1
        have c2 := World.ownsRow.cellAt HW.out (k * 3 + 2) (by omega)
        have f2 := World.ownsRow.frozenAt HW.out (k * 3 + 2)
        obtain ⟨o2, ho2⟩ : ∃ o, ((marks k0 (k * 3) ++ zs.drop (k * 3)).map (Value.int .i64))[k * 3 + 2]? = some o := ⟨_, List.getElem?_eq_getElem (by rw [List.length_map, hl]; omega)⟩
        rw [ho2] at c2
        have s0 := World.ownsRow.stored HW.out (k * 3) (.int .i64 (k0 + k * 3))
        have G0 := Lib.hid s0.2
        have s1 := World.ownsRow.stored s0.1 (k * 3 + 1) (.int .i64 (k0 + k * 3 + 1))
        have G1 := Lib.hid s1.2
        have s2 := World.ownsRow.stored s1.1 (k * 3 + 2) (.int .i64 (k0 + k * 3 + 1 + 1))
        have G2 := Lib.hid s2.2
        have SL := Lib.hid s2.1
        have i0 : (0 : Int) ≤ (k : Int) := by omega
        have i1 : (k : Int) < (n : Int) := by omega
        clear s0 ho0 s1 ho1 s2 ho2 hl
        go_wp2
        refine wp_loop_rounds 4 ?_
        rw [rounds_succ]
        go_wp2
        rw [rounds_succ]
        go_wp2
        rw [rounds_succ]
        go_wp2
        rw [rounds_succ]
        go_wp2
        go_roundw
        case rel =>
          refine ⟨k + 1, by omega, by go_num, by go_num, ?_, (grown_trans (grown_trans (grown_trans HG.out G0.out) G1.out) G2.out)⟩
          have h1 := SL.out
          have n0 : k0 + (k : Int) * 3 = k0 + ((k * 3 : Nat) : Int) := by omega
          have n1 : k0 + (k : Int) * 3 + 1 = k0 + ((k * 3 + 1 : Nat) : Int) := by omega
          have n2 : k0 + (k : Int) * 3 + 1 + 1 = k0 + ((k * 3 + 2 : Nat) : Int) := by omega
          rw [n2, n1, n0, ← List.map_set, ← List.map_set, ← List.map_set, marks_set k0 zs (k * 3) (by have := HN.out; omega), marks_set k0 zs (k * 3 + 1) (by have := HN.out; omega), marks_set k0 zs (k * 3 + 2) (by have := HN.out; omega)] at h1
          rw [← n2, ← n1, ← n0] at h1
          rw [show (k + 1) * 3 = k * 3 + 2 + 1 from by omega]
          exact h1
        case measure => simp [intOf]; omega
      · have hge : n ≤ k := by omega
        clear hlt
        go_wp2
        go_ret
        obtain rfl : k = n := by omega
        refine ⟨ret_int (by omega), ?_, HG.out⟩
        have := HW.out
        rw [List.drop_of_length_le (by rw [HN.out]; exact Nat.le_refl _), List.append_nil] at this
        exact this
set_option maxHeartbeats 1600000 in
theorem heldTripleS_marks (B : Nat) (v : Value) (k0 : Int) (n : Nat) (w : World) (h : OwnTr B w v n (marks k0 (n * 3))) (hk : 0 ≤ k0) (hk2 : k0 ≤ 4611686018427387904) (hx : n ≤ 140737488351232) :
    Calls Try.prog 30 #[v, .int .i64 k0] w fun e w' => e = .returned (.int .i64 (k0 + n * 3)) ∧ w = w' := by
  obtain ⟨a, cap, rfl, f⟩ := viewOwnTr h
  clear h
  by_cases hz : n = 0
  · subst hz
    clear f
    go_enter Try.func30, Try.ntmps30
    go_wp2
    refine wp_loop_rounds 1 ?_
    rw [rounds_succ]
    go_wp2
    go_ret
    exact ⟨ret_int (by omega), rfl⟩
  · obtain ⟨g, rfl, _, hg, hc, _⟩ := f (by omega)
    have HC := Lib.hid hc
    clear f hc hz
    go_enter Try.func30, Try.ntmps30
    go_wp2
    go_loop [1, 5] (fun m i => ∃ k : Nat, k ≤ n ∧ i = .int .i64 k ∧ m = .int .i64 (k0 + k * 3)) (fun _ i => n - (intOf i).toNat)
    case atStart => exact ⟨0, by omega, rfl, by go_num⟩
    case round =>
      obtain ⟨k, hk3, rfl, rfl⟩ := hrel
      by_cases hlt : k < n
      · skip
        have e0 := HC.out (k * 3) (by omega)
        rw [marks_get k0 _ _ (by omega)] at e0
        have n0 : k0 + ((k * 3 : Nat) : Int) = k0 + (k : Int) * 3 := by omega
        rw [n0] at e0
        have e1 := HC.out (k * 3 + 1) (by omega)
        rw [marks_get k0 _ _ (by omega)] at e1
        have n1 : k0 + ((k * 3 + 1 : Nat) : Int) = k0 + (k : Int) * 3 + 1 := by omega
        rw [n1] at e1
        have e2 := HC.out (k * 3 + 2) (by omega)
        rw [marks_get k0 _ _ (by omega)] at e2
        have n2 : k0 + ((k * 3 + 2 : Nat) : Int) = k0 + (k : Int) * 3 + 2 := by omega
        rw [n2] at e2
        clear n0 n1 n2
        have i0 : (0 : Int) ≤ (k : Int) := by omega
        have i1 : (k : Int) < (n : Int) := by omega
        go_wp2
        refine wp_loop_rounds 4 ?_
        rw [rounds_succ]
        go_wp2
        rw [rounds_succ]
        go_wp2
        rw [rounds_succ]
        go_wp2
        rw [rounds_succ]
        go_wp2
        go_round
        case rel => exact ⟨k + 1, by omega, by go_num, by go_num⟩
        case measure => simp [intOf]; omega
      · have hge : n ≤ k := by omega
        clear hlt
        go_wp2
        go_ret
        exact ⟨ret_int (by omega), rfl⟩
theorem info_tr : (Try.prog.info? 24).map (fun i => (i.zero, i.size, i.bytes)) = some (some (.agg #[.int .i64 0, .int .i64 0, .int .i64 0]), 3, 24) := by kernel_rfl
/-- A list of triples of the call's own. -/
def OwnT (B : Nat) (w : World) (v : Value) (l : List T3) : Prop := OwnTr B w v l.length (flT l)
theorem OwnT.below {B : Nat} {w w' : World} {v : Value} {l : List T3} (h : OwnT B w v l) (hb : Below w.heap.size w w') : OwnT B w' v l := own_below h hb
theorem viewT {B : Nat} {w : World} {v : Value} {l : List T3} (h : OwnT B w v l) : ∃ (a : Option Addr) (cap : Nat), v = .slice a l.length cap := by
  obtain ⟨a, cap, h1, _⟩ := viewOwnTr h
  exact ⟨a, cap, h1⟩
theorem OwnT.kept {B : Nat} {w w' : World} {v : Value} {l : List T3} {g : Nat} (h : OwnT B w v l) (hg : w.grownBy w' (some g)) (hne : ∀ k, v.ownBlock = some k → k ≠ g) : OwnT B w' v l := by
  refine World.ownsRow.kept h hg ?_
  cases hv : v.ownBlock with
  | none => exact .inl rfl
  | some k => right; simp; exact hne k hv
theorem OwnT.far {B : Nat} {w : World} {v : Value} {l : List T3} {g : Nat} (h : OwnT B w v l) (j : Nat) (x : Value) (hne : ∀ k, v.ownBlock = some k → k ≠ g) : OwnT B (w.setCell ⟨g, j, none⟩ x) v l := h.kept (grown_set w g j x) hne
/-- A list that grows by one triple that lies in a block. -/
theorem wpList_app_T1 {B : Nat} {W : World} {ops : Array Oper} {rest : List Oper} {o : Oper} {a : Act} {Q : Exit → Act → World → Prop} (hgd : o.guard = none) (s x : Operand)
    (ho : o.op = .call { callee := .builtin .append, args := #[s, x], argTypes := #[34, 34] })
    {v : Value} {g c : Nat} {l : List T3} {a0 a1 a2 : Int} (hown : OwnT B W v l) (c0 : W.cell? ⟨g, 0, none⟩ = some (.int .i64 a0)) (c1 : W.cell? ⟨g, 1, none⟩ = some (.int .i64 a1)) (c2 : W.cell? ⟨g, 2, none⟩ = some (.int .i64 a2)) (hB : B ≤ W.heap.size) (hs : a.eval s = v) (hx : a.eval x = .slice (some ⟨g, 0, none⟩) 1 c) (hlen : l.length + 1 ≤ 4194304)
    (hK : ∀ v' w', OwnT B w' v' (l ++ [(a0, a1, a2)]) → W.grownBy w' v.ownBlock → wpList Try.prog ops Q rest (a.put o.dst v') w') : wpList Try.prog ops Q (o :: rest) a W := by
  obtain ⟨i0, hi, hz0, hz1, hz2⟩ := info_parts info_tr
  refine wpList_append_own _ hgd s x 34 ho B 24 i0 (.agg #[.int .i64 0, .int .i64 0, .int .i64 0]) 3 24 Try.underlying34 hi hz0 hz1 hz2 rfl (by decide) v _ _ hs hown ⟨g, 0, none⟩ 1 c ([a0, a1, a2].map (Value.int .i64)) hx rfl ?_ ?_ ?_ ?_ hB ?_
  · intro j u hj
    match j, hj with
    | 0, hj => simp at hj; subst hj; simpa [Addr.add] using c0
    | 1, hj => simp at hj; subst hj; simpa [Addr.add] using c1
    | 2, hj => simp at hj; subst hj; simpa [Addr.add] using c2
  · intro u hu; simp only [List.mem_map] at hu; obtain ⟨y, _, rfl⟩ := hu; rfl
  · unfold maxLen; omega
  · omega
  · intro v' w' h1 h2 _
    refine hK v' w' ?_ h2
    show w'.ownsRow B 24 3 v' (l ++ [(a0, a1, a2)]).length ((flT (l ++ [(a0, a1, a2)])).map (Value.int .i64))
    rw [flT_append, List.length_append, List.map_append]
    exact h1
end Go.Proofs.Ytbgifgfegndlkaa
