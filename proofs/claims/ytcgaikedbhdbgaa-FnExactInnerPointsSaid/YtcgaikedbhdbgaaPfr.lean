/-
  slices.Grow and slices.Concat at two slices of points, and the points of a triangle from one of them on (own work).
-/
import Derived.Test.YtcgaikedbhdbgaaTri2
import Derived.Test.YtcgaikedbhdbgaaPtL
import Derived.Lib.AppendZerosOnto
import Derived.Lib.SliceRun
namespace Go.Proofs.Ytcgaikedbhdbgaa
open Go.ChangeShapes Go.WideShapes Go.ChangeAt Go.RowKit
set_option linter.unusedVariables false
set_option maxRecDepth 100000
set_option linter.unusedSimpArgs false
set_option maxRecDepth 100000

def RetF (w : World) (n : Nat) (zs : List Int) (e : Ending) (w' : World) : Prop := ∃ v, e = .returned v ∧ OwnF w.heap.size w' v n zs ∧ Below w.heap.size w w'
set_option maxHeartbeats 4000000 in
theorem growp_nil (n : Nat) (hn : 1 ≤ n) (hx : n ≤ 4194304) (w : World) : Calls Try.prog 110 #[.slice none 0 0, .int .i64 n] w (RetF w 0 []) := by
  obtain ⟨i0, hi, hz0, hz1, hz2⟩ := info_parts info_pt
  have h1 : ¬ ((n : Int) < 0) := by omega
  have h4 : (n : Int) > 0 := by omega
  have hold : (Builtin.firstCells i0.size 0 (.slice none 0 0)).run Try.prog w.drew = .ok (#[] : Array Value) w.drew := run_firstCells_none w.drew i0.size 0 0 0
  have hrz : ∀ ty, (Builtin.append_ #[32, 3] ty #[.slice none 0 0, .int .i64 (n : Int)]).run Try.prog w =
      .ok (.slice (some ⟨w.heap.size, 0, none⟩) n (grownCap w n 0 25)) (w.drew.alloc (.cells (#[] ++ Builtin.zeroCells (Value.agg #[.int .i64 0, .int .i64 0]).cells n ++ Builtin.zeroCells (Value.agg #[.int .i64 0, .int .i64 0]).cells (grownCap w n 0 25 - n)) 25)) := fun ty => by
    have h := Lib.run_append_grow_zeros w 32 3 ty 25 i0 (Value.agg #[.int .i64 0, .int .i64 0]) .i64 .i64 Try.underlying32 Try.underlying3 hi hz0 none 0 0 [] hold n (by omega) (by omega) (by omega) (by omega) (by rw [hz2]; omega)
      (by rw [Nat.zero_add]; exact growslice_fits (by omega) (by rw [hz2]; omega))
    rw [Nat.zero_add] at h
    exact h
  have hGn : n ≤ grownCap w n 0 25 := grownCap_ge w _ _ _
  have hGm : grownCap w n 0 25 ≤ maxLen := grownCap_le_maxLen w n 0 25 (by unfold maxLen; omega)
  obtain ⟨G, hG⟩ : ∃ G, G = grownCap w n 0 25 := ⟨_, rfl⟩
  rw [← hG] at hrz hGn hGm
  have hG63 : G ≤ 9223372036854775807 := by unfold maxLen at hGm; omega
  have HGm := Lib.hid hGm
  clear hold hG hGm
  go_enter Try.func110, Try.ntmps110
  go_wp2_with (at_builtin; refine Lib.wpList_append_run _ rfl _ _ _ _ rfl _ _ rfl rfl _ _ (hrz _) ?_)
  go_ret
  refine ⟨_, rfl, World.ownsRow_made w.drew _ G (Nat.le_refl _) HGm.out ?_, (Below.drew (Below.refl _ _)).alloc (Nat.le_refl _) _⟩
  simp [Builtin.zeroCells, Value.cells]
  omega
/-- A list of points that can be read: in a block that was there. -/
def SrcF (w : World) (g : Nat) (ys : List Int) : Prop := g < w.heap.size ∧ ∀ j, j < ys.length → w.cell? ⟨g, j, none⟩ = some (.int .i64 (ys.getD j 0))
theorem wpList_append_srcF (w0 : World) {W : World} {ops : Array Oper} {rest : List Oper} {o : Oper} {a : Act} {Q : Exit → Act → World → Prop} (hgd : o.guard = none) (s x : Operand)
    (ho : o.op = .call { callee := .builtin .append, args := #[s, x], argTypes := #[32, 32] })
    {v : Value} {n m : Nat} {xs ys : List Int} {g c : Nat} (hown : OwnF w0.heap.size W v n xs) (hsrc : SrcF w0 g ys) (hm : ys.length = m * 2) (hb : Below w0.heap.size w0 W) (hs : a.eval s = v) (hx : a.eval x = .slice (some ⟨g, 0, none⟩) m c) (hlen : n + m ≤ 8388608)
    (hK : ∀ v' w', OwnF w0.heap.size w' v' (n + m) (xs ++ ys) → Below w0.heap.size w0 w' → wpList Try.prog ops Q rest (a.put o.dst v') w') : wpList Try.prog ops Q (o :: rest) a W := by
  obtain ⟨i0, hi, hz0, hz1, hz2⟩ := info_parts info_pt
  refine wpList_append_own _ hgd s x 32 ho w0.heap.size 25 i0 (Value.agg #[.int .i64 0, .int .i64 0]) 2 16 Try.underlying32 hi hz0 hz1 hz2 rfl (by decide) v _ _ hs hown ⟨g, 0, none⟩ m c (ys.map (Value.int .i64)) hx ?_ ?_ ?_ ?_ ?_ hb.size ?_
  · rw [List.length_map]; omega
  · intro j u hj
    rw [List.getElem?_map] at hj
    cases hy : ys[j]? with
    | none => rw [hy] at hj; cases hj
    | some y =>
      rw [hy] at hj
      cases hj
      have hjm := (List.getElem?_eq_some_iff.1 hy).1
      have e : (Addr.add ⟨g, 0, none⟩ j) = ⟨g, j, none⟩ := by unfold Addr.add; split <;> simp_all
      rw [e, hb.cell (p := ⟨g, j, none⟩) hsrc.1, hsrc.2 j hjm]
      simp [List.getD, hy]
  · intro u hu; simp only [List.mem_map] at hu; obtain ⟨y, _, rfl⟩ := hu; rfl
  · unfold maxLen; omega
  · omega
  · intro v' w' h1 h2 _
    refine hK v' w' ?_ (hb.grown h2 hb.size (fun k hk => (hown.lt k hk).1))
    show w'.ownsRow w0.heap.size 25 2 v' (n + m) ((xs ++ ys).map (Value.int .i64))
    rw [List.map_append]; exact h1
set_option maxHeartbeats 4000000 in
theorem concat2p (q cp g0 g1 c0 c1 m0 m1 : Nat) (x0 x1 : List Int) (w : World) (hq : q < w.heap.size) (e0 : w.cell? ⟨q, 0, none⟩ = some (.slice (some ⟨g0, 0, none⟩) m0 c0)) (e1 : w.cell? ⟨q, 1, none⟩ = some (.slice (some ⟨g1, 0, none⟩) m1 c1))
    (s0 : SrcF w g0 x0) (s1 : SrcF w g1 x1) (n0 : x0.length = m0 * 2) (n1 : x1.length = m1 * 2) (l0 : 1 ≤ m0 ∧ m0 ≤ 1000003) (l1 : 1 ≤ m1 ∧ m1 ≤ 1000003) :
    Calls Try.prog 100 #[.slice (some ⟨q, 0, none⟩) 2 cp] w (RetF w (m0 + m1) (x0 ++ x1)) := by
  have S0 := Lib.hid s0
  have S1 := Lib.hid s1
  have HQ : Hid (∀ W, Below w.heap.size w W → W.cell? ⟨q, 0, none⟩ = some (.slice (some ⟨g0, 0, none⟩) m0 c0) ∧ W.cell? ⟨q, 1, none⟩ = some (.slice (some ⟨g1, 0, none⟩) m1 c1)) := by
    intro W hW
    exact ⟨(hW.cell (p := ⟨q, 0, none⟩) hq).trans e0, (hW.cell (p := ⟨q, 1, none⟩) hq).trans e1⟩
  obtain ⟨l00, l01⟩ := l0
  obtain ⟨l10, l11⟩ := l1
  have k0 : (0 : Int) ≤ m0 := by omega
  have k1 : (0 : Int) ≤ m1 := by omega
  have j0 : (m0 : Int) ≤ 1000003 := by omega
  have j1 : (m1 : Int) ≤ 1000003 := by omega
  have HG : Hid (∀ W, Calls Try.prog 110 #[.slice none 0 0, .int .i64 ((m0 : Int) + m1)] W (RetF W 0 [])) := by
    intro W
    have := growp_nil (m0 + m1) (by omega) (by omega) W
    simpa using this
  have HN0 := Lib.hid n0
  have HN1 := Lib.hid n1
  clear s0 s1 n0 n1
  go_enter Try.func100, Try.ntmps100
  go_wp2
  refine wp_loop_rounds 4 ?_
  rw [rounds_succ]
  go_wp2
  (try rw [rounds_succ])
  go_wp2
  (try rw [rounds_succ])
  go_wp2_with (first | (go_at_call 110; refine (HG.out _).mono ?_; rintro e w1 ⟨v, rfl, ho, hb⟩; have HO := Lib.hid ho; have HB := Lib.hid hb; clear e0 e1; obtain ⟨e0, e1⟩ := HQ.out _ hb; clear ho hb))
  refine wp_loop_rounds 4 ?_
  rw [rounds_succ]
  go_wp2_with (at_builtin; refine wpList_append_srcF w rfl _ _ rfl HO.out S0.out HN0.out HB.out rfl rfl (by omega) ?_; clear HO HB e0 e1; intro v' w1 ho hb; have HO := Lib.hid ho; have HB := Lib.hid hb; obtain ⟨e0, e1⟩ := HQ.out _ hb; clear ho hb)
  (try rw [rounds_succ])
  go_wp2_with (at_builtin; refine wpList_append_srcF w rfl _ _ rfl HO.out S1.out HN1.out HB.out rfl rfl (by omega) ?_; clear HO HB e0 e1; intro v' w1 ho hb; have HO := Lib.hid ho; have HB := Lib.hid hb; obtain ⟨e0, e1⟩ := HQ.out _ hb; clear ho hb)
  (try rw [rounds_succ])
  go_wp2
  go_ret
  have ho := HO.out
  rw [List.nil_append, Nat.zero_add] at ho
  exact ⟨_, rfl, ho, HB.out⟩
theorem arrT (g o c : Nat) (W : World) : (Instr.arrayAt 27 (.slice (some ⟨g, o, none⟩) 3 c)).run Try.prog W = .ok (.pointer (some ⟨g, o, none⟩)) W := by kernel_rfl
theorem own_capF {B : Nat} {w : World} {g n cp : Nat} {zs : List Int} (h : OwnF B w (.slice (some ⟨g, 0, none⟩) n cp) n zs) : n ≤ cp ∧ cp ≤ maxLen := by
  rcases h.2 with ⟨he, _⟩ | ⟨g', cap, cur, he, _, _, h1, h2, _⟩
  · cases he
  · simp only [Value.slice.injEq] at he
    obtain ⟨_, _, rfl⟩ := he
    exact ⟨h1, h2⟩
theorem concatT (q b cp : Nat) (x0 y0 x1 y1 x2 y2 : Int) (w : World) (hq : q < w.heap.size) (hbz : b < w.heap.size) (e0 : w.cell? ⟨q, 0, none⟩ = some (.slice (some ⟨b, 0, none⟩) 3 3)) (e1 : w.cell? ⟨q, 1, none⟩ = some (.slice (some ⟨b, 0, none⟩) 3 3))
    (d0 : w.cell? ⟨b, 0, none⟩ = some (.int .i64 x0)) (d1 : w.cell? ⟨b, 1, none⟩ = some (.int .i64 y0)) (d2 : w.cell? ⟨b, 2, none⟩ = some (.int .i64 x1)) (d3 : w.cell? ⟨b, 3, none⟩ = some (.int .i64 y1)) (d4 : w.cell? ⟨b, 4, none⟩ = some (.int .i64 x2)) (d5 : w.cell? ⟨b, 5, none⟩ = some (.int .i64 y2)) :
    Calls Try.prog 100 #[.slice (some ⟨q, 0, none⟩) 2 cp] w fun e w' => ∃ g cap : Nat, e = .returned (.slice (some ⟨g, 0, none⟩) 6 cap) ∧ 6 ≤ cap ∧ cap ≤ 9223372036854775807 ∧ w'.cell? ⟨g, 0, none⟩ = some (.int .i64 x0) ∧ w'.cell? ⟨g, 1, none⟩ = some (.int .i64 y0) ∧ w'.cell? ⟨g, 2, none⟩ = some (.int .i64 x1) ∧ w'.cell? ⟨g, 3, none⟩ = some (.int .i64 y1) ∧ w'.cell? ⟨g, 4, none⟩ = some (.int .i64 x2) ∧ w'.cell? ⟨g, 5, none⟩ = some (.int .i64 y2) ∧ w'.cell? ⟨g, 6, none⟩ = some (.int .i64 x0) ∧ w'.cell? ⟨g, 7, none⟩ = some (.int .i64 y0) ∧ w'.cell? ⟨g, 8, none⟩ = some (.int .i64 x1) ∧ w'.cell? ⟨g, 9, none⟩ = some (.int .i64 y1) ∧ w'.cell? ⟨g, 10, none⟩ = some (.int .i64 x2) ∧ w'.cell? ⟨g, 11, none⟩ = some (.int .i64 y2) ∧ g < w'.heap.size ∧ Below w.heap.size w w' := by
  have hs : SrcF w b [x0, y0, x1, y1, x2, y2] := by
    refine ⟨hbz, fun j hj => ?_⟩
    match j, hj with
    | 0, _ => exact d0
    | 1, _ => exact d1
    | 2, _ => exact d2
    | 3, _ => exact d3
    | 4, _ => exact d4
    | 5, _ => exact d5
    | k + 6, h => exact absurd h (by simp)
  refine (concat2p q cp b b 3 3 3 3 [x0, y0, x1, y1, x2, y2] [x0, y0, x1, y1, x2, y2] w hq e0 e1 hs hs rfl rfl (by decide) (by decide)).mono ?_
  rintro e w' ⟨v, rfl, ho, hb⟩
  obtain ⟨a, cap, rfl, f⟩ := own_viewF ho
  obtain ⟨g, rfl, _, hgl, hc, _⟩ := f (by omega)
  obtain ⟨k1, k2⟩ := own_capF ho
  have k3 : cap ≤ 9223372036854775807 := by unfold maxLen at k2; omega
  exact ⟨g, cap, rfl, k1, k3, hc 0 (by omega), hc 1 (by omega), hc 2 (by omega), hc 3 (by omega), hc 4 (by omega), hc 5 (by omega), hc 6 (by omega), hc 7 (by omega), hc 8 (by omega), hc 9 (by omega), hc 10 (by omega), hc 11 (by omega), hgl, hb⟩
set_option maxHeartbeats 1600000 in
theorem pointsFrom_0 (x0 y0 x1 y1 x2 y2 : Int) (w : World) : Calls Try.prog 78 #[.agg #[.int .i64 x0, .int .i64 y0, .int .i64 x1, .int .i64 y1, .int .i64 x2, .int .i64 y2], .int .i64 0] w fun e w' => e = .returned (.agg #[.int .i64 x0, .int .i64 y0, .int .i64 x1, .int .i64 y1, .int .i64 x2, .int .i64 y2]) ∧ Below w.heap.size w w' := by
  have ha := arrT
  have u0 : IntKind.i64.wrap (0 + 3) = 3 := by decide
  have hs20 : w.heap.size < w.heap.size + 1 + 1 := (by omega); have hs30 : w.heap.size < w.heap.size + 1 + 1 + 1 := (by omega); have hs31 : w.heap.size + 1 < w.heap.size + 1 + 1 + 1 := (by omega); have hs40 : w.heap.size < w.heap.size + 1 + 1 + 1 + 1 := (by omega); have hs41 : w.heap.size + 1 < w.heap.size + 1 + 1 + 1 + 1 := (by omega); have hs42 : w.heap.size + 1 + 1 < w.heap.size + 1 + 1 + 1 + 1 := (by omega)
  go_enter Try.func78, Try.ntmps78
  go_wp2_with fail
  go_region_held3 (fun W => W.cell? ⟨w.heap.size, 0, none⟩ = some (.int .i64 x0) ∧ W.cell? ⟨w.heap.size, 1, none⟩ = some (.int .i64 y0) ∧ W.cell? ⟨w.heap.size, 2, none⟩ = some (.int .i64 x1) ∧ W.cell? ⟨w.heap.size, 3, none⟩ = some (.int .i64 y1) ∧ W.cell? ⟨w.heap.size, 4, none⟩ = some (.int .i64 x2) ∧ W.cell? ⟨w.heap.size, 5, none⟩ = some (.int .i64 y2) ∧ w.heap.size < W.heap.size) (first | (go_keep; done) | ((repeat' apply And.intro) <;> first | (go_keep; done) | (go_cell; done) | (refine (Below.cell (B := w.heap.size + 1) ?_ ?_).trans ?_; focus (repeat' (first | (with_reducible refine Below.alloc ?_ ?_ _) | (with_reducible refine Below.setCell ?_ ?_ _) | (with_reducible refine Below.drew ?_) | (with_reducible exact Below.refl _ _) | (first | omega | (simp only [World.size_alloc, World.size_drew, World.size_setCell]; omega) | (simp; omega)))); focus (first | omega | (simp only [World.size_alloc, World.size_drew, World.size_setCell]; omega) | (simp; omega)); first | (go_keep; done) | ((refine (Below.cell (by with_reducible assumption) ?_).trans ?_) <;> first | (go_keep; done) | (first | omega | (simp only [World.size_alloc, World.size_drew, World.size_setCell]; omega) | (simp; omega)))) | ((refine (Below.cell (by with_reducible assumption) ?_).trans ?_) <;> first | (go_keep; done) | (simp only [World.size_alloc, World.size_drew, World.size_setCell]; omega) | omega) | (simp only [World.size_alloc, World.size_drew, World.size_setCell]; omega) | omega)) (first | (go_at_call 100; refine (concatT _ w.heap.size _ x0 y0 x1 y1 x2 y2 _ (by go_size) (by go_size) (by go_cell) (by go_cell) (by go_cell) (by go_cell) (by go_cell) (by go_cell) (by go_cell) (by go_cell)).mono ?_; rintro e wn ⟨g, cap, rfl, k1, k2, c0, c1, c2, c3, c4, c5, c6, c7, c8, c9, c10, c11, hgl, hb⟩; have k3 : (6 : Int) ≤ cap := (by omega); have k4 : (cap : Int) ≤ 9223372036854775807 := (by omega); obtain ⟨hcl, hfr, hlt, hsz⟩ := after_call hb; (try simp only [World.size_alloc, World.size_setCell, World.size_drew] at hcl hfr hlt hsz)))
  all_goals
    go_wp2
    refine bodyPost_ret (v := .agg #[.int .i64 x0, .int .i64 y0, .int .i64 x1, .int .i64 y1, .int .i64 x2, .int .i64 y2]) (by simp (maxDischargeDepth := 8) [results, Try.results78, go_sem, *]) rfl ?_
    exact ⟨rfl, by (repeat' (first | (with_reducible exact Below.refl _ _) | (with_reducible refine Below.alloc ?_ ?_ _) | (with_reducible refine Below.setCell ?_ ?_ _) | (with_reducible refine Below.drew ?_) | (with_reducible refine below_drewN ?_ _) | (with_reducible assumption) | (with_reducible refine below_after (by with_reducible assumption) ?_) | go_size))⟩
set_option maxHeartbeats 1600000 in
theorem pointsFrom_1 (x0 y0 x1 y1 x2 y2 : Int) (w : World) : Calls Try.prog 78 #[.agg #[.int .i64 x0, .int .i64 y0, .int .i64 x1, .int .i64 y1, .int .i64 x2, .int .i64 y2], .int .i64 1] w fun e w' => e = .returned (.agg #[.int .i64 x1, .int .i64 y1, .int .i64 x2, .int .i64 y2, .int .i64 x0, .int .i64 y0]) ∧ Below w.heap.size w w' := by
  have ha := arrT
  have u0 : IntKind.i64.wrap (1 + 3) = 4 := by decide
  have hs20 : w.heap.size < w.heap.size + 1 + 1 := (by omega); have hs30 : w.heap.size < w.heap.size + 1 + 1 + 1 := (by omega); have hs31 : w.heap.size + 1 < w.heap.size + 1 + 1 + 1 := (by omega); have hs40 : w.heap.size < w.heap.size + 1 + 1 + 1 + 1 := (by omega); have hs41 : w.heap.size + 1 < w.heap.size + 1 + 1 + 1 + 1 := (by omega); have hs42 : w.heap.size + 1 + 1 < w.heap.size + 1 + 1 + 1 + 1 := (by omega)
  go_enter Try.func78, Try.ntmps78
  go_wp2_with fail
  go_region_held3 (fun W => W.cell? ⟨w.heap.size, 0, none⟩ = some (.int .i64 x0) ∧ W.cell? ⟨w.heap.size, 1, none⟩ = some (.int .i64 y0) ∧ W.cell? ⟨w.heap.size, 2, none⟩ = some (.int .i64 x1) ∧ W.cell? ⟨w.heap.size, 3, none⟩ = some (.int .i64 y1) ∧ W.cell? ⟨w.heap.size, 4, none⟩ = some (.int .i64 x2) ∧ W.cell? ⟨w.heap.size, 5, none⟩ = some (.int .i64 y2) ∧ w.heap.size < W.heap.size) (first | (go_keep; done) | ((repeat' apply And.intro) <;> first | (go_keep; done) | (go_cell; done) | (refine (Below.cell (B := w.heap.size + 1) ?_ ?_).trans ?_; focus (repeat' (first | (with_reducible refine Below.alloc ?_ ?_ _) | (with_reducible refine Below.setCell ?_ ?_ _) | (with_reducible refine Below.drew ?_) | (with_reducible exact Below.refl _ _) | (first | omega | (simp only [World.size_alloc, World.size_drew, World.size_setCell]; omega) | (simp; omega)))); focus (first | omega | (simp only [World.size_alloc, World.size_drew, World.size_setCell]; omega) | (simp; omega)); first | (go_keep; done) | ((refine (Below.cell (by with_reducible assumption) ?_).trans ?_) <;> first | (go_keep; done) | (first | omega | (simp only [World.size_alloc, World.size_drew, World.size_setCell]; omega) | (simp; omega)))) | ((refine (Below.cell (by with_reducible assumption) ?_).trans ?_) <;> first | (go_keep; done) | (simp only [World.size_alloc, World.size_drew, World.size_setCell]; omega) | omega) | (simp only [World.size_alloc, World.size_drew, World.size_setCell]; omega) | omega)) (first | (go_at_call 100; refine (concatT _ w.heap.size _ x0 y0 x1 y1 x2 y2 _ (by go_size) (by go_size) (by go_cell) (by go_cell) (by go_cell) (by go_cell) (by go_cell) (by go_cell) (by go_cell) (by go_cell)).mono ?_; rintro e wn ⟨g, cap, rfl, k1, k2, c0, c1, c2, c3, c4, c5, c6, c7, c8, c9, c10, c11, hgl, hb⟩; have k3 : (6 : Int) ≤ cap := (by omega); have k4 : (cap : Int) ≤ 9223372036854775807 := (by omega); obtain ⟨hcl, hfr, hlt, hsz⟩ := after_call hb; (try simp only [World.size_alloc, World.size_setCell, World.size_drew] at hcl hfr hlt hsz)))
  all_goals
    go_wp2
    refine bodyPost_ret (v := .agg #[.int .i64 x1, .int .i64 y1, .int .i64 x2, .int .i64 y2, .int .i64 x0, .int .i64 y0]) (by simp (maxDischargeDepth := 8) [results, Try.results78, go_sem, *]) rfl ?_
    exact ⟨rfl, by (repeat' (first | (with_reducible exact Below.refl _ _) | (with_reducible refine Below.alloc ?_ ?_ _) | (with_reducible refine Below.setCell ?_ ?_ _) | (with_reducible refine Below.drew ?_) | (with_reducible refine below_drewN ?_ _) | (with_reducible assumption) | (with_reducible refine below_after (by with_reducible assumption) ?_) | go_size))⟩
set_option maxHeartbeats 1600000 in
theorem pointsFrom_2 (x0 y0 x1 y1 x2 y2 : Int) (w : World) : Calls Try.prog 78 #[.agg #[.int .i64 x0, .int .i64 y0, .int .i64 x1, .int .i64 y1, .int .i64 x2, .int .i64 y2], .int .i64 2] w fun e w' => e = .returned (.agg #[.int .i64 x2, .int .i64 y2, .int .i64 x0, .int .i64 y0, .int .i64 x1, .int .i64 y1]) ∧ Below w.heap.size w w' := by
  have ha := arrT
  have u0 : IntKind.i64.wrap (2 + 3) = 5 := by decide
  have hs20 : w.heap.size < w.heap.size + 1 + 1 := (by omega); have hs30 : w.heap.size < w.heap.size + 1 + 1 + 1 := (by omega); have hs31 : w.heap.size + 1 < w.heap.size + 1 + 1 + 1 := (by omega); have hs40 : w.heap.size < w.heap.size + 1 + 1 + 1 + 1 := (by omega); have hs41 : w.heap.size + 1 < w.heap.size + 1 + 1 + 1 + 1 := (by omega); have hs42 : w.heap.size + 1 + 1 < w.heap.size + 1 + 1 + 1 + 1 := (by omega)
  go_enter Try.func78, Try.ntmps78
  go_wp2_with fail
  go_region_held3 (fun W => W.cell? ⟨w.heap.size, 0, none⟩ = some (.int .i64 x0) ∧ W.cell? ⟨w.heap.size, 1, none⟩ = some (.int .i64 y0) ∧ W.cell? ⟨w.heap.size, 2, none⟩ = some (.int .i64 x1) ∧ W.cell? ⟨w.heap.size, 3, none⟩ = some (.int .i64 y1) ∧ W.cell? ⟨w.heap.size, 4, none⟩ = some (.int .i64 x2) ∧ W.cell? ⟨w.heap.size, 5, none⟩ = some (.int .i64 y2) ∧ w.heap.size < W.heap.size) (first | (go_keep; done) | ((repeat' apply And.intro) <;> first | (go_keep; done) | (go_cell; done) | (refine (Below.cell (B := w.heap.size + 1) ?_ ?_).trans ?_; focus (repeat' (first | (with_reducible refine Below.alloc ?_ ?_ _) | (with_reducible refine Below.setCell ?_ ?_ _) | (with_reducible refine Below.drew ?_) | (with_reducible exact Below.refl _ _) | (first | omega | (simp only [World.size_alloc, World.size_drew, World.size_setCell]; omega) | (simp; omega)))); focus (first | omega | (simp only [World.size_alloc, World.size_drew, World.size_setCell]; omega) | (simp; omega)); first | (go_keep; done) | ((refine (Below.cell (by with_reducible assumption) ?_).trans ?_) <;> first | (go_keep; done) | (first | omega | (simp only [World.size_alloc, World.size_drew, World.size_setCell]; omega) | (simp; omega)))) | ((refine (Below.cell (by with_reducible assumption) ?_).trans ?_) <;> first | (go_keep; done) | (simp only [World.size_alloc, World.size_drew, World.size_setCell]; omega) | omega) | (simp only [World.size_alloc, World.size_drew, World.size_setCell]; omega) | omega)) (first | (go_at_call 100; refine (concatT _ w.heap.size _ x0 y0 x1 y1 x2 y2 _ (by go_size) (by go_size) (by go_cell) (by go_cell) (by go_cell) (by go_cell) (by go_cell) (by go_cell) (by go_cell) (by go_cell)).mono ?_; rintro e wn ⟨g, cap, rfl, k1, k2, c0, c1, c2, c3, c4, c5, c6, c7, c8, c9, c10, c11, hgl, hb⟩; have k3 : (6 : Int) ≤ cap := (by omega); have k4 : (cap : Int) ≤ 9223372036854775807 := (by omega); obtain ⟨hcl, hfr, hlt, hsz⟩ := after_call hb; (try simp only [World.size_alloc, World.size_setCell, World.size_drew] at hcl hfr hlt hsz)))
  all_goals
    go_wp2
    refine bodyPost_ret (v := .agg #[.int .i64 x2, .int .i64 y2, .int .i64 x0, .int .i64 y0, .int .i64 x1, .int .i64 y1]) (by simp (maxDischargeDepth := 8) [results, Try.results78, go_sem, *]) rfl ?_
    exact ⟨rfl, by (repeat' (first | (with_reducible exact Below.refl _ _) | (with_reducible refine Below.alloc ?_ ?_ _) | (with_reducible refine Below.setCell ?_ ?_ _) | (with_reducible refine Below.drew ?_) | (with_reducible refine below_drewN ?_ _) | (with_reducible assumption) | (with_reducible refine below_after (by with_reducible assumption) ?_) | go_size))⟩
end Go.Proofs.Ytcgaikedbhdbgaa
