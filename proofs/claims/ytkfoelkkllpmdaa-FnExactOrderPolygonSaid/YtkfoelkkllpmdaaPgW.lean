/-
  WhereInPolygon in the program and in the model (own work).
-/
import Derived.Lib.MinMax
import Derived.Test.YtkfoelkkllpmdaaPgN
namespace Go.Proofs.Ytkfoelkkllpmdaa
open Go.ChangeShapes Go.WideShapes Go.ChangeAt Go.RowKit Go.Shelf
set_option linter.unusedVariables false
set_option maxRecDepth 100000
set_option linter.unusedSimpArgs false
set_option maxRecDepth 100000
attribute [local go_sem] Oper.semAt_some

def sgn (n : Int) : Int := if n < 0 then -1 else if 0 < n then 1 else 0
theorem sgn_bd (n : Int) : -1 ≤ sgn n ∧ sgn n ≤ 1 := by unfold sgn; split <;> (try split) <;> omega
theorem isNaN_any (n : Int) (w : World) : Calls Try.prog 130 #[.int .i64 n] w fun e w' => e = .returned (.bool false) ∧ w = w' := by
  have hb : (n != n) = false := by simp
  go_enter Try.func130, Try.ntmps130
  go_wp2
  go_ret
  exact ⟨rfl, rfl⟩
theorem compare_any (n : Int) (w : World) : Calls Try.prog 113 #[.int .i64 n, .int .i64 0] w fun e w' => e = .returned (.int .i64 (sgn n)) ∧ w = w' := by
  have HN := Lib.hid isNaN_any
  by_cases h1 : n < 0
  · have e : sgn n = -1 := if_pos h1
    rw [e]
    go_enter Try.func113, Try.ntmps113
    go_wp2_with (go_at_call 130; refine (HN.out _ _).mono ?_; rintro e w' ⟨rfl, rfl⟩)
    go_ret
    exact ⟨rfl, rfl⟩
  · by_cases h2 : 0 < n
    · have e : sgn n = 1 := by unfold sgn; rw [if_neg h1, if_pos h2]
      rw [e]
      go_enter Try.func113, Try.ntmps113
      go_wp2_with (go_at_call 130; refine (HN.out _ _).mono ?_; rintro e w' ⟨rfl, rfl⟩)
      go_ret
      exact ⟨rfl, rfl⟩
    · have e : sgn n = 0 := by unfold sgn; rw [if_neg h1, if_neg h2]
      rw [e]
      go_enter Try.func113, Try.ntmps113
      go_wp2_with (go_at_call 130; refine (HN.out _ _).mono ?_; rintro e w' ⟨rfl, rfl⟩)
      go_ret
      exact ⟨rfl, rfl⟩
/-- Where a is beside the side k. -/
def tnL (ps : List (Int × Int)) (a : Int × Int) (k : Nat) : Int := trn (pl ps k) (pl ps (k + 1)) a
def wP {m : Nat} (ps : List (Int × Int)) (a : Int × Int) (pre : List (Fin m)) : Int := pre.foldl (fun acc x => min acc (sgn (tnL ps a x.val))) 1
def whL (ps : List (Int × Int)) (a : Int × Int) : Int := (List.range ps.length).foldl (fun acc k => min acc (sgn (tnL ps a k))) 1
theorem wP_snoc {m : Nat} (ps : List (Int × Int)) (a : Int × Int) (pre : List (Fin m)) (x : Fin m) : wP ps a (pre ++ [x]) = min (wP ps a pre) (sgn (tnL ps a x.val)) := by simp [wP]
theorem wP_all {m : Nat} {ps : List (Int × Int)} (hm : ps.length = m) (a : Int × Int) (ys : List (Fin m)) (hy : ys.map (·.val) = List.range m) : wP ps a ys = whL ps a := by
  unfold wP whL
  rw [hm, ← hy, List.foldl_map]
theorem wP_bd {m : Nat} (ps : List (Int × Int)) (a : Int × Int) (pre : List (Fin m)) : -1 ≤ wP ps a pre ∧ wP ps a pre ≤ 1 := by
  unfold wP
  suffices h : ∀ acc : Int, -1 ≤ acc ∧ acc ≤ 1 → -1 ≤ pre.foldl (fun acc x => min acc (sgn (tnL ps a x.val))) acc ∧ pre.foldl (fun acc x => min acc (sgn (tnL ps a x.val))) acc ≤ 1 from h 1 (by omega)
  induction pre with
  | nil => intro acc h; exact h
  | cons x pre ih =>
    intro acc h
    rw [List.foldl_cons]
    have := sgn_bd (tnL ps a x.val)
    exact ih _ (by omega)
set_option maxHeartbeats 2000000 in
theorem whereIn_some (ps : List (Int × Int)) (m g cap : Nat) (a0 a1 : Int) (w : World) (hps : ps.length = m) (h3 : 3 ≤ m) (hm : m ≤ 12) (hg : g < w.heap.size) (hc : PtCells w g 0 ps) (hin : inC ps = true) (ha : isPt (a0, a1) = true) :
    Calls Try.prog 75 #[.slice (some ⟨g, 0, none⟩) m cap, .agg #[.int .i64 a0, .int .i64 a1]] w fun e w' => e = .returned (.int .i64 (whL ps (a0, a1))) ∧ Below w.heap.size w w' := by
  have HPT := Lib.hid (fun k => inC_pt hin (show 0 < ps.length by omega) k)
  have HPA := Lib.hid ha
  have HPS := Lib.hid hps
  have HC := Lib.hid hc
  clear hc hin ha
  refine (callsIn_wide (n := 6)).1 ?_
  refine callsIn_of_wp_marks Try.func75 rfl trivial ?_ rfl
  simp only [Try.ntmps75, List.size_toArray, List.length_cons, List.length_nil, Nat.reduceAdd, Nat.reduceSub, Array.replicate_succ, Array.replicate_zero, List.push_toArray, List.append_toArray, List.nil_append, List.cons_append]
  gi_wp2_with (refine ⟨trivial, ?_⟩; gi_at_call 81; refine (callsIn_wide.2 (sides_any _ _ _ _)).mono ?_; rintro e wn ⟨rfl, rfl⟩)
  refine wpIn_rangeFunc_ownH rfl (by omega) (gf := 121) (lb := #[.pointer (some ⟨w.heap.size + 1 + 1, 0, none⟩)]) rfl trivial (enters_of Try.func121 (by kernel_rfl) rfl)
    (sides_stops _ (by omega) (w.heap.size + 1 + 1) g m cap ps hps (by omega) (by omega) _ ?hBs ?hgl ?hcA ?hcB) kps_t (kps_b ?hBs1 ?hgl1) (Below.refl _ _) (fun _ => rfl)
    (fun pre W => (Boxed W (w.heap.size + 1) 3 (.int .i64 (wP ps (a0, a1) pre)) ∧ Pc W w.heap.size (a0, a1)) ∧ (Below w.heap.size w W ∧ w.heap.size + 1 + 1 + 1 ≤ W.heap.size))
    (fun _ _ _ => False)
    (OwnFrom.and (fun _ _ _ _ hs hg hr => ⟨boxed_own1 hs.1 hg (fun r e => (hr r e).2), hs.2.own hg (fun r e => (hr r e).2)⟩) (OwnFrom.and (ownFrom_below (Nat.le_refl _) (by simp; omega)) (fun _ _ _ _ hs hg _ => Nat.le_trans hs hg.size)))
    (fun _ _ _ _ _ hs _ _ => hs)
    ?h0
    (fun x a' W => ∃ A B, w.heap.size + 1 + 1 < A ∧ w.heap.size + 1 + 1 < B ∧ g < A ∧ g < B ∧ Pc W A (pl ps x.val) ∧ Pc W B (pl ps (x.val + 1)) ∧ a' = { tmps := #[.slice (some ⟨g, 0, none⟩) m cap, .agg #[.int .i64 a0, .int .i64 a1], undef, .pointer (some ⟨w.heap.size, 0, none⟩), .int .i64 0, .pointer (some ⟨w.heap.size + 1, 0, none⟩), .pointer (some ⟨A, 0, none⟩), .pointer (some ⟨B, 0, none⟩), .slice (some ⟨g, 0, none⟩) m cap, .func (.func 121) #[] #[.pointer (some ⟨w.heap.size + 1 + 1, 0, none⟩)], .agg #[.int .i64 (pl ps x.val).1, .int .i64 (pl ps x.val).2], .agg #[.int .i64 (pl ps (x.val + 1)).1, .int .i64 (pl ps (x.val + 1)).2], undef, undef, undef, undef, undef, undef, undef, undef], defers := [] }) ?hAx ?assign ?body ?done ?stop
  case hBs => simp
  case hgl => simp; omega
  case hcA => go_cell
  case hcB => exact ptCells_kept HC.out (by rw [Below.heap_alloc _ _ _ (by simp; omega), Below.heap_alloc _ _ _ (by simp; omega), Below.heap_alloc _ _ _ hg])
  case hBs1 => simp
  case hgl1 => simp; omega
  case h0 =>
    refine ⟨⟨?_, ?_⟩, ?_, by simp⟩
    · have := (Boxed.new (w.alloc (.cells #[.int .i64 a0, .int .i64 a1] 38)) 3 (.int .i64 1)).alloc (.cells #[.slice (some ⟨g, 0, none⟩) m cap] 25)
      rwa [World.size_alloc] at this
    · exact ((Below.heap_alloc _ _ _ (by simp; omega)).trans (Below.heap_alloc _ _ _ (by simp))).trans (World.alloc_heap_new w _)
    · (repeat' (first | (with_reducible exact Below.refl _ _) | (with_reducible refine Below.alloc ?_ ?_ _) | (with_reducible refine Below.setCell ?_ ?_ _) | (with_reducible refine Below.drew ?_) | (with_reducible refine below_drewN ?_ _) | (with_reducible assumption) | (with_reducible refine below_after (by with_reducible assumption) ?_) | go_size))
  case hAx =>
    rintro x a' _ W W' row ⟨A, B, h1, h2, h3, h4, h5, h6, h7⟩ hg hr
    exact ⟨A, B, h1, h2, h3, h4, h5.own hg (fun r e => (hr r e).2), h6.own hg (fun r e => (hr r e).2), h7⟩
  case assign =>
    rintro l pre x W K ⟨⟨hI, hI2⟩, hB, hz⟩ hK
    have hsz := hB.size
    unfold enS vP
    gi_wp2
    have b2 : Below W.heap.size W ((W.alloc (.cells #[.int .i64 (pl ps x.val).1, .int .i64 (pl ps x.val).2] 38)).alloc (.cells #[.int .i64 (pl ps (x.val + 1)).1, .int .i64 (pl ps (x.val + 1)).2] 38)) := by (repeat' (first | (with_reducible exact Below.refl _ _) | (with_reducible refine Below.alloc ?_ ?_ _) | (with_reducible refine Below.setCell ?_ ?_ _) | (with_reducible refine Below.drew ?_) | (with_reducible refine below_drewN ?_ _) | (with_reducible assumption) | (with_reducible refine below_after (by with_reducible assumption) ?_) | go_size))
    refine hK _ _ ((keepsOthers_of_below b2).from _) (kps_below b2 (by omega) (by omega)) ⟨⟨boxed_below hI b2, hI2.below b2⟩, hB.trans (b2.mono hsz), Nat.le_trans hz b2.size⟩ ?_
    refine ⟨W.heap.size, W.heap.size + 1, by omega, by omega, by omega, by omega, ?_, ?_, rfl⟩
    · exact (Below.heap_alloc _ _ _ (by simp)).trans (World.alloc_heap_new W _)
    · have := World.alloc_heap_new (W.alloc (.cells #[.int .i64 (pl ps x.val).1, .int .i64 (pl ps x.val).2] 38)) (.cells #[.int .i64 (pl ps (x.val + 1)).1, .int .i64 (pl ps (x.val + 1)).2] 38)
      rwa [World.size_alloc] at this
  case body =>
    rintro l pre x a' W hl hrec ⟨⟨hI, hI2⟩, hB, hz⟩ ⟨A, B, h1, h2, h3, h4, hA, hB2, rfl⟩ hlt
    have HSN := Lib.hid (wP_snoc ps (a0, a1) pre x)
    have HCALL : Hid (∀ w, Calls Try.prog 100 #[vP (pl ps x.val), vP (pl ps (x.val + 1)), .agg #[.int .i64 a0, .int .i64 a1]] w fun e w' => e = .returned (.int .i64 (tnL ps (a0, a1) x.val)) ∧ Below w.heap.size w w') := fun w => turnOf_any _ _ _ _ _ _ w (HPT.out x.val) (HPT.out (x.val + 1)) HPA.out
    unfold vP at HCALL
    obtain ⟨X0, X1, hX⟩ : ∃ a b, pl ps x.val = (a, b) := ⟨_, _, rfl⟩
    obtain ⟨Y0, Y1, hY⟩ : ∃ a b, pl ps (x.val + 1) = (a, b) := ⟨_, _, rfl⟩
    obtain ⟨D, hDe⟩ : ∃ D, tnL ps (a0, a1) x.val = D := ⟨_, rfl⟩
    obtain ⟨C, hCe⟩ : ∃ C, wP ps (a0, a1) pre = C := ⟨_, rfl⟩
    rw [hX] at hA HCALL ⊢
    rw [hY] at hB2 HCALL ⊢
    rw [hDe] at HCALL HSN
    rw [hCe] at hI HSN
    clear hX hY hDe hCe
    gi_wp2
    refine wpIn_region_roundT (fun i => i == 7) (fun W1 => Below w.heap.size w W1 ∧ Boxed W1 (w.heap.size + 1) 3 (.int .i64 C) ∧ Pc W1 A (X0, X1) ∧ Pc W1 B (Y0, Y1) ∧ Pc W1 w.heap.size (a0, a1)) (by kernel_rfl) (by kernel_rfl) (fun _ _ q => q) ?_ (fun hS => ?_)
    · exact ⟨Below.drew hB, hI, hA, hB2, hI2⟩
    (refine wpAnyT_take (i := 0) (v := ?_) rfl (by kernel_rfl) (by kernel_rfl) (by kernel_rfl) (by kernel_rfl) (fun _ _ _ h => h) (Or.inl ⟨rfl, ?_⟩) hS (by kernel_rfl) ?_; rotate_left; focus (intro W1 hSw; (try dsimp only at hSw); have k2 := hSw.2.1.cell; have k3 := hSw.2.2.1.c0; have k4 := hSw.2.2.1.c1; have k5 := hSw.2.2.2.1.c0; have k6 := hSw.2.2.2.1.c1; have k7 := hSw.2.2.2.2.c0; have k8 := hSw.2.2.2.2.c1; go_simp; try (with_reducible rfl))); (try simp only [Act.put, List.getElem_toArray, List.getElem_cons_succ, List.getElem_cons_zero, List.setIfInBounds_toArray, List.set_cons_zero, List.set_cons_succ])
    (refine wpAnyT_take (i := 1) (v := ?_) rfl (by kernel_rfl) (by kernel_rfl) (by kernel_rfl) (by kernel_rfl) (fun _ _ _ h => h) (Or.inl ⟨rfl, ?_⟩) hS (by kernel_rfl) ?_; rotate_left; focus (intro W1 hSw; (try dsimp only at hSw); have k2 := hSw.2.1.cell; have k3 := hSw.2.2.1.c0; have k4 := hSw.2.2.1.c1; have k5 := hSw.2.2.2.1.c0; have k6 := hSw.2.2.2.1.c1; have k7 := hSw.2.2.2.2.c0; have k8 := hSw.2.2.2.2.c1; go_simp; try (with_reducible rfl))); (try simp only [Act.put, List.getElem_toArray, List.getElem_cons_succ, List.getElem_cons_zero, List.setIfInBounds_toArray, List.set_cons_zero, List.set_cons_succ])
    (refine wpAnyT_take (i := 2) (v := ?_) rfl (by kernel_rfl) (by kernel_rfl) (by kernel_rfl) (by kernel_rfl) (fun _ _ _ h => h) (Or.inl ⟨rfl, ?_⟩) hS (by kernel_rfl) ?_; rotate_left; focus (intro W1 hSw; (try dsimp only at hSw); have k2 := hSw.2.1.cell; have k3 := hSw.2.2.1.c0; have k4 := hSw.2.2.1.c1; have k5 := hSw.2.2.2.1.c0; have k6 := hSw.2.2.2.1.c1; have k7 := hSw.2.2.2.2.c0; have k8 := hSw.2.2.2.2.c1; go_simp; try (with_reducible rfl))); (try simp only [Act.put, List.getElem_toArray, List.getElem_cons_succ, List.getElem_cons_zero, List.setIfInBounds_toArray, List.set_cons_zero, List.set_cons_succ])
    (refine wpAnyT_take (i := 3) (v := ?_) rfl (by kernel_rfl) (by kernel_rfl) (by kernel_rfl) (by kernel_rfl) (fun _ _ _ h => h) (Or.inl ⟨rfl, ?_⟩) hS (by kernel_rfl) ?_; rotate_left; focus (intro W1 hSw; (try dsimp only at hSw); have k2 := hSw.2.1.cell; have k3 := hSw.2.2.1.c0; have k4 := hSw.2.2.1.c1; have k5 := hSw.2.2.2.1.c0; have k6 := hSw.2.2.2.1.c1; have k7 := hSw.2.2.2.2.c0; have k8 := hSw.2.2.2.2.c1; go_simp; try (with_reducible rfl))); (try simp only [Act.put, List.getElem_toArray, List.getElem_cons_succ, List.getElem_cons_zero, List.setIfInBounds_toArray, List.set_cons_zero, List.set_cons_succ])
    refine wpAnyT_one (i := 4) (by kernel_rfl) rfl (fun K hK => ?_)
    go_simp
    go_at_call 100
    refine (HCALL.out _).mono ?_
    rintro e w4 ⟨rfl, hb⟩
    have hS := (⟨below_after hb hS.1, boxed_below hS.2.1 hb, hS.2.2.1.below hb, hS.2.2.2.1.below hb, hS.2.2.2.2.below hb⟩ : (fun W1 => Below w.heap.size w W1 ∧ Boxed W1 (w.heap.size + 1) 3 (.int .i64 C) ∧ Pc W1 A (X0, X1) ∧ Pc W1 B (Y0, Y1) ∧ Pc W1 w.heap.size (a0, a1)) w4)
    have hb0 : Below W.heap.size W w4 := (Below.drew (Below.refl _ _)).trans hb
    refine hK _ _ (fun _ _ => hS) ?_
    clear hK K hb
    (try simp only [Act.put, List.getElem_toArray, List.getElem_cons_succ, List.getElem_cons_zero, List.setIfInBounds_toArray, List.set_cons_zero, List.set_cons_succ])
    refine wpAnyT_one (i := 5) (by kernel_rfl) rfl (fun K hK => ?_)
    go_simp
    go_at_call 113
    refine (compare_any _ _).mono ?_
    rintro e w5 ⟨rfl, rfl⟩
    refine hK _ _ (fun _ _ => hS) ?_
    clear hK K
    (try simp only [Act.put, List.getElem_toArray, List.getElem_cons_succ, List.getElem_cons_zero, List.setIfInBounds_toArray, List.set_cons_zero, List.set_cons_succ])
    refine wpAnyT_one (i := 6) (by kernel_rfl) rfl (fun K hK => ?_)
    go_simp
    refine hK _ _ (fun _ _ => hS) ?_
    clear hK K
    (try simp only [Act.put, List.getElem_toArray, List.getElem_cons_succ, List.getElem_cons_zero, List.setIfInBounds_toArray, List.set_cons_zero, List.set_cons_succ])
    refine wpAnyT_one (i := 7) (by kernel_rfl) rfl (fun K hK => ?_)
    have f0 := hS.2.1.frozen
    have f1 := hS.2.1.cell
    go_simp
    refine hK _ _ (fun e => by cases e) ?_
    clear hK K
    (try simp only [Act.put, List.getElem_toArray, List.getElem_cons_succ, List.getElem_cons_zero, List.setIfInBounds_toArray, List.set_cons_zero, List.set_cons_succ])
    refine wpAnyT_done (by kernel_rfl) ?_ _
    gi_wp2
    have hIl := hI.lt
    refine ⟨((keepsOthers_of_below hb0).trans (KeepsOthers.setCell w4 ⟨w.heap.size + 1, 0, none⟩ (.int .i64 (min C (sgn D))))).from _, ⟨?_, ?_⟩, ⟨?_, ?_⟩, ?_, ?_⟩
    · rw [Below.heap_setCell _ _ _ _ (by simp)]; exact hb0.block _ (by omega)
    · rw [Below.heap_setCell _ _ _ _ (by simp; omega)]; exact hb0.block _ (by omega)
    · rw [HSN.out]; exact hS.2.1.set _
    · exact (Below.heap_setCell _ _ _ _ (by simp)).trans hS.2.2.2.2
    · exact hS.1.setCell (p := ⟨w.heap.size + 1, 0, none⟩) (by simp) _
    · simpa using Nat.le_trans hz hb0.size
  case done =>
    rintro D ys W hD hy ⟨⟨hI, _⟩, hB, hz⟩ hK
    rw [wP_all HPS.out (a0, a1) ys hy] at hI
    have k1 := hI.cell
    gi_wp2
    refine ⟨by simp, .inl ⟨_, _, rfl, run_takeDeferred hK, ?_⟩⟩
    refine ⟨.int .i64 (whL ps (a0, a1)), ?_, rfl, hB.trans (belowK_b (w := w) (Nat.le_refl _) W D _ _ (by simp at hD; omega) hK rfl rfl)⟩
    simp [results, Try.f75, go_sem]
  case stop =>
    rintro D c pre W _ _ h _
    exact h.elim
/-- The model's search from side j on. -/
def mW (ps : List (Int × Int)) (a : Int × Int) : Nat → Nat → Int → Int
  | 0, _, o => o
  | f + 1, j, o => if tnL ps a j < 0 then -1 else mW ps a f (j + 1) (if tnL ps a j = 0 then 0 else o)
theorem fold_low (ps : List (Int × Int)) (a : Int × Int) : ∀ l : List Nat, l.foldl (fun acc k => min acc (sgn (tnL ps a k))) (-1) = -1
  | [] => rfl
  | k :: l => by
    rw [List.foldl_cons]
    have := sgn_bd (tnL ps a k)
    rw [show min (-1) (sgn (tnL ps a k)) = -1 by omega]
    exact fold_low ps a l
theorem mW_eq (ps : List (Int × Int)) (a : Int × Int) : ∀ f j o, (o = 0 ∨ o = 1) → mW ps a f j o = (List.range' j f).foldl (fun acc k => min acc (sgn (tnL ps a k))) o
  | 0, _, _, _ => rfl
  | f + 1, j, o, h => by
    unfold mW
    rw [List.range'_succ, List.foldl_cons]
    by_cases h1 : tnL ps a j < 0
    · rw [if_pos h1]
      have : sgn (tnL ps a j) = -1 := if_pos h1
      rw [this, show min o (-1) = -1 by omega, fold_low]
    · rw [if_neg h1]
      by_cases h2 : tnL ps a j = 0
      · rw [if_pos h2, mW_eq ps a f (j + 1) 0 (.inl rfl)]
        have : sgn (tnL ps a j) = 0 := by rw [h2]; rfl
        rw [this, show min o 0 = 0 by omega]
      · rw [if_neg h2, mW_eq ps a f (j + 1) o h]
        have : sgn (tnL ps a j) = 1 := by unfold sgn; rw [if_neg h1, if_pos (by omega)]
        rw [this, show min o 1 = o by omega]
theorem mW_all (ps : List (Int × Int)) (a : Int × Int) : mW ps a ps.length 0 1 = whL ps a := by
  rw [mW_eq ps a _ _ _ (.inr rfl), ← List.range_eq_range']; rfl
set_option maxHeartbeats 4000000 in
theorem l09Where_some (ps : List (Int × Int)) (m g cap : Nat) (a0 a1 : Int) (w : World) (hps : ps.length = m) (h3 : 3 ≤ m) (hm : m ≤ 12) (hg : g < w.heap.size) (hc : PtCells w g 0 ps) (hin : inC ps = true) (ha : isPt (a0, a1) = true) :
    Calls Try.prog 73 #[.slice (some ⟨g, 0, none⟩) m cap, .agg #[.int .i64 a0, .int .i64 a1]] w fun e w' => e = .returned (.int .i64 (whL ps (a0, a1))) ∧ Below w.heap.size w w' := by
  have HPT := Lib.hid (fun k => inC_pt hin (show 0 < ps.length by omega) k)
  have HPA := Lib.hid ha
  have HPS := Lib.hid hps
  have HC := Lib.hid hc
  have HM := mW_all ps (a0, a1)
  rw [hps] at HM
  obtain ⟨R, hR⟩ : ∃ R, whL ps (a0, a1) = R := ⟨_, rfl⟩
  rw [hR] at HM ⊢
  have HM0 := Lib.hid HM
  clear hc hin ha HM hR
  go_enter Try.func73, Try.ntmps73
  go_upto_region 1 with fail
  obtain ⟨wB, hwB⟩ : ∃ wB, wB = w.alloc (.cells #[.int .i64 a0, .int .i64 a1] 38) := ⟨_, rfl⟩
  rw [← hwB]
  have HBW : Hid (Below w.heap.size w wB) := by
    show Below w.heap.size w wB
    rw [hwB]; (repeat' (first | (with_reducible exact Below.refl _ _) | (with_reducible refine Below.alloc ?_ ?_ _) | (with_reducible refine Below.setCell ?_ ?_ _) | (with_reducible refine Below.drew ?_) | (with_reducible refine below_drewN ?_ _) | (with_reducible assumption) | (with_reducible refine below_after (by with_reducible assumption) ?_) | go_size))
  have HQ0 : Hid (Bk2 wB w.heap.size a0 a1) := by show Bk2 wB w.heap.size a0 a1; rw [hwB]; exact bk2_new w a0 a1 _
  have HGB : Hid (PtCells wB g 0 ps ∧ g < wB.heap.size) := ⟨ptCells_kept HC.out (HBW.out.block g hg), Nat.lt_of_lt_of_le hg HBW.out.size⟩
  clear hwB HC
  go_wp2_with fail
  go_loopw [5, 6] (fun t5 t6 wr => ∃ (j : Nat) (o : Int), t5 = .int .i64 o ∧ t6 = .int .i64 (j : Int) ∧ j ≤ m ∧ mW ps (a0, a1) (m - j) j o = R ∧ Below wB.heap.size wB wr) (fun _ t6 _ => m - (intOf t6).toNat)
  case atStart => exact ⟨0, 1, rfl, rfl, by omega, HM0.out, Below.refl _ _⟩
  case round =>
    obtain ⟨j, o, rfl, rfl, hj, hMr, hB⟩ := hrel
    by_cases hjm : j < m
    · have hpl := HPS.out
      have HMG : Hid (mW ps (a0, a1) (m - j) j o = if tnL ps (a0, a1) j < 0 then -1 else mW ps (a0, a1) (m - (j + 1)) (j + 1) (if tnL ps (a0, a1) j = 0 then 0 else o)) := by
        show _ = _
        rw [show m - j = (m - (j + 1)) + 1 by omega]; rfl
      have HMR := Lib.hid hMr
      have HTN : Hid (tnL ps (a0, a1) j = trn (pl ps j) (pl ps (j + 1)) (a0, a1)) := rfl
      have HX := Lib.hid (HPT.out j)
      have HY0 := Lib.hid (HPT.out (j + 1))
      obtain ⟨X0, X1, hX⟩ : ∃ x y, pl ps j = (x, y) := ⟨_, _, rfl⟩
      obtain ⟨Y0, Y1, hY⟩ : ∃ x y, pl ps (j + 1) = (x, y) := ⟨_, _, rfl⟩
      have hk := Nat.mod_lt (j + 1) (show 0 < m by omega)
      have hqm : ((j : Int) + 1).tmod (m : Int) = (((j + 1) % m : Nat) : Int) := by rw [Int.tmod_eq_emod_of_nonneg (by omega)]; exact_mod_cast rfl
      obtain ⟨K, hK⟩ : ∃ K, (j + 1) % m = K := ⟨_, rfl⟩
      rw [hK] at hqm hk
      have HCL : Hid (∀ W, Below wr.heap.size wr W → W.cell? ⟨g, j * 2, none⟩ = some (.int .i64 X0) ∧ W.cell? ⟨g, j * 2 + 1, none⟩ = some (.int .i64 X1) ∧ W.cell? ⟨g, K * 2, none⟩ = some (.int .i64 Y0) ∧ W.cell? ⟨g, K * 2 + 1, none⟩ = some (.int .i64 Y1)) := by
        intro W hW
        have hc2 := ptCells_kept HGB.out.1 ((below_after hW hB).block g HGB.out.2)
        have b0 := hc2 j (by omega)
        have b1 := hc2 K (by omega)
        have e0 : ps.getD j (0, 0) = (X0, X1) := by rw [← hX, pl_lt (by omega)]
        have e1 : ps.getD K (0, 0) = (Y0, Y1) := by rw [← hY]; unfold pl; rw [hpl, hK]
        rw [e0, Nat.zero_add] at b0
        rw [e1, Nat.zero_add] at b1
        exact ⟨b0.1, b0.2, b1.1, b1.2⟩
      rw [hX] at HX HTN
      rw [hY] at HY0 HTN
      have HQ := Lib.hid (HQ0.out.below hB)
      have q1 : (0 : Int) ≤ (j : Int) := by omega
      have q3 : (j : Int) < (m : Int) := by omega
      have q4 : (K : Int) < (m : Int) := by omega
      have q5 : (0 : Int) ≤ (K : Int) := by omega
      have q9 : ¬ m = 0 := by omega
      have qa : IntKind.i64.wrap ((j : Int) + 1) = (j : Int) + 1 := by rw [IntKind.wrap_i64]; omega
      have HBr := Lib.hid hB
      clear hX hY hK hMr hB
      go_wp2_with fail
      go_cut [7, 8] (fun v7 v8 wx => ∃ GY GZ, v7 = .pointer (some ⟨GY, 0, none⟩) ∧ v8 = .pointer (some ⟨GZ, 0, none⟩) ∧ Bk2 wx GY X0 X1 ∧ Bk2 wx GZ Y0 Y1 ∧ Bk2 wx w.heap.size a0 a1 ∧ Below wr.heap.size wr wx)
      case first =>
        refine wp_region_held_drew (S := fun W => Below wr.heap.size wr W) (by kernel_rfl) ?_ (fun hHeld => ?_); focus ((try dsimp only); exact (Below.refl _ _).drew)
        have hHeld : Below wr.heap.size wr _ := hHeld
        obtain ⟨wD, hwD⟩ : ∃ wD, wr.drew = wD := ⟨_, rfl⟩
        rw [hwD] at hHeld ⊢
        clear hwD
        (refine wpAnyH_take (i := 0) (v := ?_) rfl (by kernel_rfl) (by kernel_rfl) (by kernel_rfl) (fun _ _ _ h => h) (Or.inl ⟨rfl, ?_⟩) (by assumption) ?_; rotate_left; focus (intro W hSw; (try dsimp only at hSw); obtain ⟨i0, i1, i2, i3⟩ := HCL.out _ hSw; go_simp; try (with_reducible rfl))); (try simp only [Act.put, List.getElem_toArray, List.getElem_cons_succ, List.getElem_cons_zero, List.setIfInBounds_toArray, List.set_cons_zero, List.set_cons_succ])
        (refine wpAnyH_take (i := 1) (v := ?_) rfl (by kernel_rfl) (by kernel_rfl) (by kernel_rfl) (fun _ _ _ h => h) (Or.inl ⟨rfl, ?_⟩) (by assumption) ?_; rotate_left; focus (intro W hSw; (try dsimp only at hSw); obtain ⟨i0, i1, i2, i3⟩ := HCL.out _ hSw; go_simp; try (with_reducible rfl))); (try simp only [Act.put, List.getElem_toArray, List.getElem_cons_succ, List.getElem_cons_zero, List.setIfInBounds_toArray, List.set_cons_zero, List.set_cons_succ])
        (refine wpAnyH_take (i := 2) (v := ?_) rfl (by kernel_rfl) (by kernel_rfl) (by kernel_rfl) (fun _ _ _ h => h) (Or.inl ⟨rfl, ?_⟩) (by assumption) ?_; rotate_left; focus (intro W hSw; (try dsimp only at hSw); obtain ⟨i0, i1, i2, i3⟩ := HCL.out _ hSw; go_simp; try (with_reducible rfl))); (try simp only [Act.put, List.getElem_toArray, List.getElem_cons_succ, List.getElem_cons_zero, List.setIfInBounds_toArray, List.set_cons_zero, List.set_cons_succ])
        (refine wpAnyH_take (i := 3) (v := ?_) rfl (by kernel_rfl) (by kernel_rfl) (by kernel_rfl) (fun _ _ _ h => h) (Or.inl ⟨rfl, ?_⟩) (by assumption) ?_; rotate_left; focus (intro W hSw; (try dsimp only at hSw); obtain ⟨i0, i1, i2, i3⟩ := HCL.out _ hSw; go_simp; try (with_reducible rfl))); (try simp only [Act.put, List.getElem_toArray, List.getElem_cons_succ, List.getElem_cons_zero, List.setIfInBounds_toArray, List.set_cons_zero, List.set_cons_succ])
        (refine wpAnyH_take (i := 4) (v := ?_) rfl (by kernel_rfl) (by kernel_rfl) (by kernel_rfl) (fun _ _ _ h => h) (Or.inl ⟨rfl, ?_⟩) (by assumption) ?_; rotate_left; focus (intro W hSw; (try dsimp only at hSw); obtain ⟨i0, i1, i2, i3⟩ := HCL.out _ hSw; go_simp; try (with_reducible rfl))); (try simp only [Act.put, List.getElem_toArray, List.getElem_cons_succ, List.getElem_cons_zero, List.setIfInBounds_toArray, List.set_cons_zero, List.set_cons_succ])
        (refine wpAnyH_take (i := 5) (v := ?_) rfl (by kernel_rfl) (by kernel_rfl) (by kernel_rfl) (fun _ _ _ h => h) (Or.inl ⟨rfl, ?_⟩) (by assumption) ?_; rotate_left; focus (intro W hSw; (try dsimp only at hSw); obtain ⟨i0, i1, i2, i3⟩ := HCL.out _ hSw; go_simp; try (with_reducible rfl))); (try simp only [Act.put, List.getElem_toArray, List.getElem_cons_succ, List.getElem_cons_zero, List.setIfInBounds_toArray, List.set_cons_zero, List.set_cons_succ])
        (refine wpAnyH_take (i := 6) (v := ?_) rfl (by kernel_rfl) (by kernel_rfl) (by kernel_rfl) (fun _ _ _ h => h) (Or.inl ⟨rfl, ?_⟩) (by assumption) ?_; rotate_left; focus (intro W hSw; (try dsimp only at hSw); obtain ⟨i0, i1, i2, i3⟩ := HCL.out _ hSw; go_simp; try (with_reducible rfl))); (try simp only [Act.put, List.getElem_toArray, List.getElem_cons_succ, List.getElem_cons_zero, List.setIfInBounds_toArray, List.set_cons_zero, List.set_cons_succ])
        (refine wpAnyH_take (i := 7) (v := ?_) rfl (by kernel_rfl) (by kernel_rfl) (by kernel_rfl) (fun _ _ _ h => h) (Or.inl ⟨rfl, ?_⟩) (by assumption) ?_; rotate_left; focus (intro W hSw; (try dsimp only at hSw); obtain ⟨i0, i1, i2, i3⟩ := HCL.out _ hSw; go_simp; try (with_reducible rfl))); (try simp only [Act.put, List.getElem_toArray, List.getElem_cons_succ, List.getElem_cons_zero, List.setIfInBounds_toArray, List.set_cons_zero, List.set_cons_succ])
        (refine wpAnyH_take (i := 8) (v := ?_) rfl (by kernel_rfl) (by kernel_rfl) (by kernel_rfl) (fun _ _ _ h => h) (Or.inl ⟨rfl, ?_⟩) (by assumption) ?_; rotate_left; focus (intro W hSw; (try dsimp only at hSw); obtain ⟨i0, i1, i2, i3⟩ := HCL.out _ hSw; go_simp; try (with_reducible rfl))); (try simp only [Act.put, List.getElem_toArray, List.getElem_cons_succ, List.getElem_cons_zero, List.setIfInBounds_toArray, List.set_cons_zero, List.set_cons_succ])
        (refine wpAnyH_take (i := 9) (v := ?_) rfl (by kernel_rfl) (by kernel_rfl) (by kernel_rfl) (fun _ _ _ h => h) (Or.inl ⟨rfl, ?_⟩) (by assumption) ?_; rotate_left; focus (intro W hSw; (try dsimp only at hSw); obtain ⟨i0, i1, i2, i3⟩ := HCL.out _ hSw; go_simp; try (with_reducible rfl))); (try simp only [Act.put, List.getElem_toArray, List.getElem_cons_succ, List.getElem_cons_zero, List.setIfInBounds_toArray, List.set_cons_zero, List.set_cons_succ])
        (refine wpAnyH_take (i := 10) (v := ?_) rfl (by kernel_rfl) (by kernel_rfl) (by kernel_rfl) (fun _ _ _ h => h) (Or.inl ⟨rfl, ?_⟩) (by assumption) ?_; rotate_left; focus (intro W hSw; (try dsimp only at hSw); obtain ⟨i0, i1, i2, i3⟩ := HCL.out _ hSw; go_simp; try (with_reducible rfl))); (try simp only [Act.put, List.getElem_toArray, List.getElem_cons_succ, List.getElem_cons_zero, List.setIfInBounds_toArray, List.set_cons_zero, List.set_cons_succ])
        (refine wpAnyH_take (i := 11) (v := ?_) rfl (by kernel_rfl) (by kernel_rfl) (by kernel_rfl) (fun _ _ _ h => h) (Or.inl ⟨rfl, ?_⟩) (by assumption) ?_; rotate_left; focus (intro W hSw; (try dsimp only at hSw); obtain ⟨i0, i1, i2, i3⟩ := HCL.out _ hSw; go_simp; try (with_reducible rfl))); (try simp only [Act.put, List.getElem_toArray, List.getElem_cons_succ, List.getElem_cons_zero, List.setIfInBounds_toArray, List.set_cons_zero, List.set_cons_succ])
        refine wpAnyH_ready (rs := [12, 13]) (by kernel_rfl) (by simp) ?_; refine AllReadyH.cons rfl (fun K hK => ?_) (AllReadyH.cons rfl (fun K hK => ?_) AllReadyH.nil)
        · skip
          go_simp; obtain ⟨GY, hGY⟩ : ∃ G, wD.heap.size = G := ⟨_, rfl⟩; have le_Y : wr.heap.size ≤ GY := by rw [← hGY]; exact Below.size hHeld
          have HY : Hid (Bk2 (wD.alloc (.cells #[.int .i64 0, .int .i64 0] 38)) GY 0 0) := by rw [← hGY]; exact bk2_new wD 0 0 _
          refine hK.out _ _ (Below.alloc hHeld (Below.size hHeld) _) (fun hHeld2 => ?_); (clear hHeld; rename _ => hHeld; clear hK K; have hHeld : Below wr.heap.size wr _ := hHeld); (try simp only [Act.put, List.getElem_toArray, List.getElem_cons_succ, List.getElem_cons_zero, List.setIfInBounds_toArray, List.set_cons_zero, List.set_cons_succ])
          rw [hGY]; clear hGY; obtain ⟨yw0, hwx⟩ : ∃ wx, wD.alloc (.cells #[.int .i64 0, .int .i64 0] 38) = wx := ⟨_, rfl⟩; rw [hwx] at HY hHeld ⊢; clear hwx
          refine wpAnyH_ready (rs := [13]) (by kernel_rfl) (by simp) ?_; refine AllReadyH.cons rfl (fun K hK => ?_) AllReadyH.nil
          go_simp; obtain ⟨GZ, hGZ⟩ : ∃ G, yw0.heap.size = G := ⟨_, rfl⟩; have le_Z : wr.heap.size ≤ GZ := by rw [← hGZ]; exact Below.size hHeld
          have ne_Z_Y : GZ ≠ GY := by have := HY.out.2.2; omega
          have ne_Y_Z : GY ≠ GZ := Ne.symm ne_Z_Y
          have HY := Lib.hid (HY.out.below ((Below.refl _ _).alloc (Nat.le_refl _) (.cells #[.int .i64 0, .int .i64 0] 38))); skip
          have HZ : Hid (Bk2 (yw0.alloc (.cells #[.int .i64 0, .int .i64 0] 38)) GZ 0 0) := by rw [← hGZ]; exact bk2_new yw0 0 0 _
          refine hK.out _ _ (Below.alloc hHeld (Below.size hHeld) _) (fun hHeld2 => ?_); (clear hHeld; rename _ => hHeld; clear hK K; have hHeld : Below wr.heap.size wr _ := hHeld); (try simp only [Act.put, List.getElem_toArray, List.getElem_cons_succ, List.getElem_cons_zero, List.setIfInBounds_toArray, List.set_cons_zero, List.set_cons_succ])
          rw [hGZ]; clear hGZ; obtain ⟨yw1, hwx⟩ : ∃ wx, yw0.alloc (.cells #[.int .i64 0, .int .i64 0] 38) = wx := ⟨_, rfl⟩; rw [hwx] at HY HZ hHeld ⊢; clear hwx
          refine wpAnyH_ready (rs := [14]) (by kernel_rfl) (by simp) ?_; refine AllReadyH.cons rfl (fun K hK => ?_) AllReadyH.nil
          obtain ⟨⟨a0, a1⟩, ⟨f0, f1⟩, az⟩ := HY.out; go_simp; clear a0 f0 a1 f1 az
          have HZ := Lib.hid ((HZ.out.far ⟨GY, 0, none⟩ (.int .i64 X0) (by show GZ ≠ GY; exact ne_Z_Y)).far ⟨GY, 1, none⟩ (.int .i64 X1) (by show GZ ≠ GY; exact ne_Z_Y))
          have HY := Lib.hid ((HY.out.set0 X0).set1 X1)
          refine hK.out _ _ (Below.setCell (Below.setCell hHeld (p := ⟨GY, 0, none⟩) le_Y _) (p := ⟨GY, 1, none⟩) le_Y _) (fun hHeld2 => ?_); (clear hHeld; rename _ => hHeld; clear hK K; have hHeld : Below wr.heap.size wr _ := hHeld); (try simp only [Act.put, List.getElem_toArray, List.getElem_cons_succ, List.getElem_cons_zero, List.setIfInBounds_toArray, List.set_cons_zero, List.set_cons_succ])
          obtain ⟨yw2, hwx⟩ : ∃ wx, (yw1.setCell ⟨GY, 0, none⟩ (.int .i64 X0)).setCell ⟨GY, 1, none⟩ (.int .i64 X1) = wx := ⟨_, rfl⟩; rw [hwx] at HY HZ hHeld ⊢; clear hwx
          refine wpAnyH_ready (rs := [15]) (by kernel_rfl) (by simp) ?_; refine AllReadyH.cons rfl (fun K hK => ?_) AllReadyH.nil
          obtain ⟨⟨a0, a1⟩, ⟨f0, f1⟩, az⟩ := HZ.out; go_simp; clear a0 f0 a1 f1 az
          have HY := Lib.hid ((HY.out.far ⟨GZ, 0, none⟩ (.int .i64 Y0) (by show GY ≠ GZ; exact ne_Y_Z)).far ⟨GZ, 1, none⟩ (.int .i64 Y1) (by show GY ≠ GZ; exact ne_Y_Z))
          have HZ := Lib.hid ((HZ.out.set0 Y0).set1 Y1)
          refine hK.out _ _ (Below.setCell (Below.setCell hHeld (p := ⟨GZ, 0, none⟩) le_Z _) (p := ⟨GZ, 1, none⟩) le_Z _) (fun hHeld2 => ?_); (clear hHeld; rename _ => hHeld; clear hK K; have hHeld : Below wr.heap.size wr _ := hHeld); (try simp only [Act.put, List.getElem_toArray, List.getElem_cons_succ, List.getElem_cons_zero, List.setIfInBounds_toArray, List.set_cons_zero, List.set_cons_succ])
          obtain ⟨yw3, hwx⟩ : ∃ wx, (yw2.setCell ⟨GZ, 0, none⟩ (.int .i64 Y0)).setCell ⟨GZ, 1, none⟩ (.int .i64 Y1) = wx := ⟨_, rfl⟩; rw [hwx] at HY HZ hHeld ⊢; clear hwx
          refine wpAnyH_done (by kernel_rfl) ?_ _
          go_wp2_with fail
          go_meet
          exact ⟨GY, GZ, rfl, rfl, HY.out, HZ.out, HQ.out.below hHeld, hHeld⟩
        · skip
          go_simp; obtain ⟨GZ, hGZ⟩ : ∃ G, wD.heap.size = G := ⟨_, rfl⟩; have le_Z : wr.heap.size ≤ GZ := by rw [← hGZ]; exact Below.size hHeld
          have HZ : Hid (Bk2 (wD.alloc (.cells #[.int .i64 0, .int .i64 0] 38)) GZ 0 0) := by rw [← hGZ]; exact bk2_new wD 0 0 _
          refine hK.out _ _ (Below.alloc hHeld (Below.size hHeld) _) (fun hHeld2 => ?_); (clear hHeld; rename _ => hHeld; clear hK K; have hHeld : Below wr.heap.size wr _ := hHeld); (try simp only [Act.put, List.getElem_toArray, List.getElem_cons_succ, List.getElem_cons_zero, List.setIfInBounds_toArray, List.set_cons_zero, List.set_cons_succ])
          rw [hGZ]; clear hGZ; obtain ⟨yw0, hwx⟩ : ∃ wx, wD.alloc (.cells #[.int .i64 0, .int .i64 0] 38) = wx := ⟨_, rfl⟩; rw [hwx] at HZ hHeld ⊢; clear hwx
          refine wpAnyH_ready (rs := [12]) (by kernel_rfl) (by simp) ?_; refine AllReadyH.cons rfl (fun K hK => ?_) AllReadyH.nil
          go_simp; obtain ⟨GY, hGY⟩ : ∃ G, yw0.heap.size = G := ⟨_, rfl⟩; have le_Y : wr.heap.size ≤ GY := by rw [← hGY]; exact Below.size hHeld
          have ne_Y_Z : GY ≠ GZ := by have := HZ.out.2.2; omega
          have ne_Z_Y : GZ ≠ GY := Ne.symm ne_Y_Z
          have HZ := Lib.hid (HZ.out.below ((Below.refl _ _).alloc (Nat.le_refl _) (.cells #[.int .i64 0, .int .i64 0] 38))); skip
          have HY : Hid (Bk2 (yw0.alloc (.cells #[.int .i64 0, .int .i64 0] 38)) GY 0 0) := by rw [← hGY]; exact bk2_new yw0 0 0 _
          refine hK.out _ _ (Below.alloc hHeld (Below.size hHeld) _) (fun hHeld2 => ?_); (clear hHeld; rename _ => hHeld; clear hK K; have hHeld : Below wr.heap.size wr _ := hHeld); (try simp only [Act.put, List.getElem_toArray, List.getElem_cons_succ, List.getElem_cons_zero, List.setIfInBounds_toArray, List.set_cons_zero, List.set_cons_succ])
          rw [hGY]; clear hGY; obtain ⟨yw1, hwx⟩ : ∃ wx, yw0.alloc (.cells #[.int .i64 0, .int .i64 0] 38) = wx := ⟨_, rfl⟩; rw [hwx] at HZ HY hHeld ⊢; clear hwx
          refine wpAnyH_ready (rs := [14]) (by kernel_rfl) (by simp) ?_; refine AllReadyH.cons rfl (fun K hK => ?_) AllReadyH.nil
          obtain ⟨⟨a0, a1⟩, ⟨f0, f1⟩, az⟩ := HY.out; go_simp; clear a0 f0 a1 f1 az
          have HZ := Lib.hid ((HZ.out.far ⟨GY, 0, none⟩ (.int .i64 X0) (by show GZ ≠ GY; exact ne_Z_Y)).far ⟨GY, 1, none⟩ (.int .i64 X1) (by show GZ ≠ GY; exact ne_Z_Y))
          have HY := Lib.hid ((HY.out.set0 X0).set1 X1)
          refine hK.out _ _ (Below.setCell (Below.setCell hHeld (p := ⟨GY, 0, none⟩) le_Y _) (p := ⟨GY, 1, none⟩) le_Y _) (fun hHeld2 => ?_); (clear hHeld; rename _ => hHeld; clear hK K; have hHeld : Below wr.heap.size wr _ := hHeld); (try simp only [Act.put, List.getElem_toArray, List.getElem_cons_succ, List.getElem_cons_zero, List.setIfInBounds_toArray, List.set_cons_zero, List.set_cons_succ])
          obtain ⟨yw2, hwx⟩ : ∃ wx, (yw1.setCell ⟨GY, 0, none⟩ (.int .i64 X0)).setCell ⟨GY, 1, none⟩ (.int .i64 X1) = wx := ⟨_, rfl⟩; rw [hwx] at HZ HY hHeld ⊢; clear hwx
          refine wpAnyH_ready (rs := [15]) (by kernel_rfl) (by simp) ?_; refine AllReadyH.cons rfl (fun K hK => ?_) AllReadyH.nil
          obtain ⟨⟨a0, a1⟩, ⟨f0, f1⟩, az⟩ := HZ.out; go_simp; clear a0 f0 a1 f1 az
          have HY := Lib.hid ((HY.out.far ⟨GZ, 0, none⟩ (.int .i64 Y0) (by show GY ≠ GZ; exact ne_Y_Z)).far ⟨GZ, 1, none⟩ (.int .i64 Y1) (by show GY ≠ GZ; exact ne_Y_Z))
          have HZ := Lib.hid ((HZ.out.set0 Y0).set1 Y1)
          refine hK.out _ _ (Below.setCell (Below.setCell hHeld (p := ⟨GZ, 0, none⟩) le_Z _) (p := ⟨GZ, 1, none⟩) le_Z _) (fun hHeld2 => ?_); (clear hHeld; rename _ => hHeld; clear hK K; have hHeld : Below wr.heap.size wr _ := hHeld); (try simp only [Act.put, List.getElem_toArray, List.getElem_cons_succ, List.getElem_cons_zero, List.setIfInBounds_toArray, List.set_cons_zero, List.set_cons_succ])
          obtain ⟨yw3, hwx⟩ : ∃ wx, (yw2.setCell ⟨GZ, 0, none⟩ (.int .i64 Y0)).setCell ⟨GZ, 1, none⟩ (.int .i64 Y1) = wx := ⟨_, rfl⟩; rw [hwx] at HZ HY hHeld ⊢; clear hwx
          refine wpAnyH_done (by kernel_rfl) ?_ _
          go_wp2_with fail
          go_meet
          exact ⟨GY, GZ, rfl, rfl, HY.out, HZ.out, HQ.out.below hHeld, hHeld⟩
      case rest =>
        obtain ⟨GY, GZ, rfl, rfl, hY, hZ, hQ, hBx⟩ := hcut
        obtain ⟨w3, rfl⟩ : ∃ w2, w2 = wc := ⟨_, rfl⟩
        have HBN := Lib.hid (below_after hBx HBr.out)
        have HC3 : Hid (∀ W, Below w3.heap.size w3 W → W.cell? ⟨GY, 0, none⟩ = some (.int .i64 X0) ∧ W.cell? ⟨GY, 1, none⟩ = some (.int .i64 X1) ∧ W.cell? ⟨GZ, 0, none⟩ = some (.int .i64 Y0) ∧ W.cell? ⟨GZ, 1, none⟩ = some (.int .i64 Y1) ∧ W.cell? ⟨w.heap.size, 0, none⟩ = some (.int .i64 a0) ∧ W.cell? ⟨w.heap.size, 1, none⟩ = some (.int .i64 a1)) := fun W hW =>
          ⟨(hY.below hW).1.1, (hY.below hW).1.2, (hZ.below hW).1.1, (hZ.below hW).1.2, (hQ.below hW).1.1, (hQ.below hW).1.2⟩
        have HP1 : Hid (∀ w, Calls Try.prog 80 #[.agg #[.int .i64 Y0, .int .i64 Y1], .agg #[.int .i64 X0, .int .i64 X1], .int .i64 (-1)] w fun e w' => e = .returned (.agg #[.int .i64 (Y0 - X0), .int .i64 (Y1 - X1)]) ∧ Below w.heap.size w w') := fun w => l01Plus_minus _ _ _ _ w (isPt_bn1 HY0.out) (isPt_bn2 HY0.out) (isPt_bn1 HX.out) (isPt_bn2 HX.out)
        have HP2 : Hid (∀ w, Calls Try.prog 80 #[.agg #[.int .i64 a0, .int .i64 a1], .agg #[.int .i64 X0, .int .i64 X1], .int .i64 (-1)] w fun e w' => e = .returned (.agg #[.int .i64 (a0 - X0), .int .i64 (a1 - X1)]) ∧ Below w.heap.size w w') := fun w => l01Plus_minus _ _ _ _ w (isPt_bn1 HPA.out) (isPt_bn2 HPA.out) (isPt_bn1 HX.out) (isPt_bn2 HX.out)
        have HDT : Hid (∀ w, Calls Try.prog 108 #[.agg #[.int .i64 (Y0 - X0), .int .i64 (Y1 - X1)], .agg #[.int .i64 (a0 - X0), .int .i64 (a1 - X1)]] w fun e w' => e = .returned (.int .i64 (tnL ps (a0, a1) j)) ∧ Below w.heap.size w w') := fun w => by
          rw [HTN.out]
          exact l01Det_any _ _ _ _ w (bn_sub (isPt_c1 HY0.out) (isPt_c1 HX.out)) (bn_sub (isPt_c2 HY0.out) (isPt_c2 HX.out)) (bn_sub (isPt_c1 HPA.out) (isPt_c1 HX.out)) (bn_sub (isPt_c2 HPA.out) (isPt_c2 HX.out))
        obtain ⟨T, hT⟩ : ∃ T, tnL ps (a0, a1) j = T := ⟨_, rfl⟩
        rw [hT] at HDT HMG
        clear hY hZ hQ hBx HBr HCL hqm hT HTN HQ
        go_wp2_with fail
        go_cut [9] (fun v9 wx => v9 = .int .i64 T ∧ Below w3.heap.size w3 wx)
        case first =>
          refine wp_region_held_drew (S := fun W => Below w3.heap.size w3 W) (by kernel_rfl) ?_ (fun hHeld => ?_); focus ((try dsimp only); exact (Below.refl _ _).drew)
          have hHeld : Below w3.heap.size w3 _ := hHeld
          obtain ⟨wD, hwD⟩ : ∃ wD, w3.drew = wD := ⟨_, rfl⟩
          rw [hwD] at hHeld ⊢
          clear hwD
          (refine wpAnyH_take (i := 0) (v := ?_) rfl (by kernel_rfl) (by kernel_rfl) (by kernel_rfl) (fun _ _ _ h => h) (Or.inl ⟨rfl, ?_⟩) (by assumption) ?_; rotate_left; focus (intro W hSw; (try dsimp only at hSw); obtain ⟨i0, i1, i2, i3, i4, i5⟩ := HC3.out _ hSw; go_simp; try (with_reducible rfl))); (try simp only [Act.put, List.getElem_toArray, List.getElem_cons_succ, List.getElem_cons_zero, List.setIfInBounds_toArray, List.set_cons_zero, List.set_cons_succ])
          (refine wpAnyH_take (i := 1) (v := ?_) rfl (by kernel_rfl) (by kernel_rfl) (by kernel_rfl) (fun _ _ _ h => h) (Or.inl ⟨rfl, ?_⟩) (by assumption) ?_; rotate_left; focus (intro W hSw; (try dsimp only at hSw); obtain ⟨i0, i1, i2, i3, i4, i5⟩ := HC3.out _ hSw; go_simp; try (with_reducible rfl))); (try simp only [Act.put, List.getElem_toArray, List.getElem_cons_succ, List.getElem_cons_zero, List.setIfInBounds_toArray, List.set_cons_zero, List.set_cons_succ])
          (refine wpAnyH_take (i := 3) (v := ?_) rfl (by kernel_rfl) (by kernel_rfl) (by kernel_rfl) (fun _ _ _ h => h) (Or.inl ⟨rfl, ?_⟩) (by assumption) ?_; rotate_left; focus (intro W hSw; (try dsimp only at hSw); obtain ⟨i0, i1, i2, i3, i4, i5⟩ := HC3.out _ hSw; go_simp; try (with_reducible rfl))); (try simp only [Act.put, List.getElem_toArray, List.getElem_cons_succ, List.getElem_cons_zero, List.setIfInBounds_toArray, List.set_cons_zero, List.set_cons_succ])
          (refine wpAnyH_take (i := 4) (v := ?_) rfl (by kernel_rfl) (by kernel_rfl) (by kernel_rfl) (fun _ _ _ h => h) (Or.inl ⟨rfl, ?_⟩) (by assumption) ?_; rotate_left; focus (intro W hSw; (try dsimp only at hSw); obtain ⟨i0, i1, i2, i3, i4, i5⟩ := HC3.out _ hSw; go_simp; try (with_reducible rfl))); (try simp only [Act.put, List.getElem_toArray, List.getElem_cons_succ, List.getElem_cons_zero, List.setIfInBounds_toArray, List.set_cons_zero, List.set_cons_succ])
          refine wpAnyH_ready (rs := [2]) (by kernel_rfl) (by simp) ?_; refine AllReadyH.cons rfl (fun K hK => ?_) AllReadyH.nil
          go_simp; (go_at_call 80; refine (HP1.out _).mono ?_; rintro en yw0 ⟨rfl, hb2⟩); refine hK.out _ _ (below_after hb2 hHeld) (fun hHeld2 => ?_); clear hb2; (clear hHeld; rename _ => hHeld; clear hK K; have hHeld : Below w3.heap.size w3 _ := hHeld); (try simp only [Act.put, List.getElem_toArray, List.getElem_cons_succ, List.getElem_cons_zero, List.setIfInBounds_toArray, List.set_cons_zero, List.set_cons_succ])
          refine wpAnyH_ready (rs := [5]) (by kernel_rfl) (by simp) ?_; refine AllReadyH.cons rfl (fun K hK => ?_) AllReadyH.nil
          go_simp; (go_at_call 80; refine (HP2.out _).mono ?_; rintro en yw1 ⟨rfl, hb2⟩); refine hK.out _ _ (below_after hb2 hHeld) (fun hHeld2 => ?_); clear hb2; (clear hHeld; rename _ => hHeld; clear hK K; have hHeld : Below w3.heap.size w3 _ := hHeld); (try simp only [Act.put, List.getElem_toArray, List.getElem_cons_succ, List.getElem_cons_zero, List.setIfInBounds_toArray, List.set_cons_zero, List.set_cons_succ])
          refine wpAnyH_ready (rs := [6]) (by kernel_rfl) (by simp) ?_; refine AllReadyH.cons rfl (fun K hK => ?_) AllReadyH.nil
          go_simp; (go_at_call 108; refine (HDT.out _).mono ?_; rintro en yw2 ⟨rfl, hb2⟩); refine hK.out _ _ (below_after hb2 hHeld) (fun hHeld2 => ?_); clear hb2; (clear hHeld; rename _ => hHeld; clear hK K; have hHeld : Below w3.heap.size w3 _ := hHeld); (try simp only [Act.put, List.getElem_toArray, List.getElem_cons_succ, List.getElem_cons_zero, List.setIfInBounds_toArray, List.set_cons_zero, List.set_cons_succ])
          (refine wpAnyH_take (i := 7) (v := ?_) rfl (by kernel_rfl) (by kernel_rfl) (by kernel_rfl) (fun _ _ _ h => h) (Or.inl ⟨rfl, ?_⟩) (by assumption) ?_; rotate_left; focus (intro W hSw; (try dsimp only at hSw); obtain ⟨i0, i1, i2, i3, i4, i5⟩ := HC3.out _ hSw; go_simp; try (with_reducible rfl))); (try simp only [Act.put, List.getElem_toArray, List.getElem_cons_succ, List.getElem_cons_zero, List.setIfInBounds_toArray, List.set_cons_zero, List.set_cons_succ])
          refine wpAnyH_done (by kernel_rfl) ?_ _
          go_wp2_with fail
          go_meet
          exact ⟨rfl, hHeld⟩
        case rest =>
          obtain ⟨rfl, hBx⟩ := hcut
          have hBn := below_after hBx HBN.out
          clear hBx HBN HC3
          have hMM := HMG.out
          rw [HMR.out] at hMM
          by_cases h1 : T < 0
          · rw [if_pos h1] at hMM
            have HMM := Lib.hid hMM
            clear hMM
            go_wp2_with fail
            go_ret
            exact ⟨by rw [HMM.out]; rfl, below_after hBn HBW.out⟩
          · rw [if_neg h1] at hMM
            by_cases h2 : T = 0
            · rw [if_pos h2] at hMM
              have HMM := Lib.hid hMM
              clear hMM
              have hb : (T == 0) = true := by simp [h2]
              go_wp2_with fail
              go_roundw
              case rel => exact ⟨j + 1, 0, rfl, by go_num, by omega, HMM.out.symm, hBn⟩
              case measure => simp only [intOf]; omega
            · rw [if_neg h2] at hMM
              have HMM := Lib.hid hMM
              clear hMM
              have hb : (T == 0) = false := by simp [h2]
              go_wp2_with fail
              go_roundw
              case rel => exact ⟨j + 1, o, rfl, by go_num, by omega, HMM.out.symm, hBn⟩
              case measure => simp only [intOf]; omega
    · obtain rfl : j = m := by omega
      have q1 : ¬ (j : Int) < (j : Int) := by omega
      rw [Nat.sub_self] at hMr
      have hMr2 : o = R := hMr
      subst hMr2
      go_wp2_with fail
      refine bodyPost_ret (v := .int .i64 o) (by simp (maxDischargeDepth := 8) [results, Try.results73, go_sem, *]) rfl ?_
      exact ⟨rfl, below_after hB HBW.out⟩

def whV (ps : List (Int × Int)) (x y : Int) : Int := if isP ps = true then (if isPt (x, y) = true then whL ps (x, y) else 0) else 0
def whC (ps : List (Int × Int)) (x y : Int) : Int := if isP ps = true then (if isPt (x, y) = true then 0 else 1) else 1
theorem wh_no {ps : List (Int × Int)} {x y : Int} (h : isP ps = false) : whV ps x y = 0 ∧ whC ps x y = 1 := by unfold whV whC; rw [h]; exact ⟨rfl, rfl⟩
theorem wh_pt {ps : List (Int × Int)} {x y : Int} (h : isP ps = true) (hk : isPt (x, y) = false) : whV ps x y = 0 ∧ whC ps x y = 1 := by unfold whV whC; rw [h, hk]; exact ⟨rfl, rfl⟩
theorem wh_yes {ps : List (Int × Int)} {x y : Int} (h : isP ps = true) (hk : isPt (x, y) = true) : whV ps x y = whL ps (x, y) ∧ whC ps x y = 0 := by unfold whV whC; rw [h, hk]; exact ⟨rfl, rfl⟩
theorem whereIn_lp (a : Option Addr) (n cap : Nat) (ps : List (Int × Int)) (x y : Int) (w : World) (h : LP w a n ps) (hp : isPt (x, y) = true) : Calls Try.prog 75 #[.slice a n cap, .agg #[.int .i64 x, .int .i64 y]] w fun e w' => e = .returned (.int .i64 (whL ps (x, y))) ∧ Below w.heap.size w w' := by
  obtain ⟨g, rfl, h1, h2, h3, h4, h5, h6⟩ := h
  exact whereIn_some ps n g cap x y w h1 h2 h3 h4 h5 h6 hp
theorem impl_WhereInPolygon_any (a : Option Addr) (n cap : Nat) (ps : List (Int × Int)) (x y : Int) (w : World) (h : LV w a n ps) : Calls Try.prog 38 #[.slice a n cap, .agg #[.int .i64 x, .int .i64 y]] w fun e w' => e = .returned (.tuple #[.int .i64 (whV ps x y), .int .i64 (whC ps x y)]) ∧ Below w.heap.size w w' := by
  have HI := Lib.hid (fun w1 (hb : Below w.heap.size w w1) => impl_IsPolygon_any a n cap ps w1 (h.below hb))
  have HX : Hid (∀ W', Below (w.alloc (.cells #[.int .i64 x, .int .i64 y] 38)).heap.size (w.alloc (.cells #[.int .i64 x, .int .i64 y] 38)) W' → W'.cell? ⟨w.heap.size, 0, none⟩ = some (.int .i64 x) ∧ W'.cell? ⟨w.heap.size, 1, none⟩ = some (.int .i64 y)) := by
    intro W' hB
    exact ⟨by rw [hB.cell (p := ⟨w.heap.size, 0, none⟩) (by simp)]; go_cell, by rw [hB.cell (p := ⟨w.heap.size, 1, none⟩) (by simp)]; go_cell⟩
  cases hp : isP ps
  · rw [(wh_no hp).1, (wh_no hp).2]
    rw [hp] at HI
    clear h hp
    go_enter Try.func38, Try.ntmps38
    go_wp2_with (go_at_call 20; refine (HI.out _ (by (repeat' (first | (with_reducible exact Below.refl _ _) | (with_reducible refine Below.alloc ?_ ?_ _) | (with_reducible refine Below.setCell ?_ ?_ _) | (with_reducible refine Below.drew ?_) | (with_reducible refine below_drewN ?_ _) | (with_reducible assumption) | (with_reducible refine below_after (by with_reducible assumption) ?_) | go_size)))).mono ?_; rintro e w1 ⟨rfl, hb⟩; obtain ⟨q0, q1⟩ := HX.out _ hb)
    refine bodyPost_ret (v := .tuple #[.int .i64 0, .int .i64 1]) (by simp (maxDischargeDepth := 8) [results, Try.results38, go_sem, *]) rfl ?_
    exact ⟨rfl, by (repeat' (first | (with_reducible exact Below.refl _ _) | (with_reducible refine Below.alloc ?_ ?_ _) | (with_reducible refine Below.setCell ?_ ?_ _) | (with_reducible refine Below.drew ?_) | (with_reducible refine below_drewN ?_ _) | (with_reducible assumption) | (with_reducible refine below_after (by with_reducible assumption) ?_) | go_size))⟩
  · rw [hp] at HI
    have HL := Lib.hid (h.poly hp)
    cases hk : isPt (x, y)
    · rw [(wh_pt hp hk).1, (wh_pt hp hk).2]
      have HK := Lib.hid (isPoint_any x y)
      rw [hk] at HK
      clear h hp hk
      go_enter Try.func38, Try.ntmps38
      go_wp2_with (first | (go_at_call 20; refine (HI.out _ (by (repeat' (first | (with_reducible exact Below.refl _ _) | (with_reducible refine Below.alloc ?_ ?_ _) | (with_reducible refine Below.setCell ?_ ?_ _) | (with_reducible refine Below.drew ?_) | (with_reducible refine below_drewN ?_ _) | (with_reducible assumption) | (with_reducible refine below_after (by with_reducible assumption) ?_) | go_size)))).mono ?_; rintro e w1 ⟨rfl, hb⟩; obtain ⟨q0, q1⟩ := HX.out _ hb) | (go_at_call 74; refine (HK.out _).mono ?_; rintro e w2 ⟨rfl, hb2⟩))
      refine bodyPost_ret (v := .tuple #[.int .i64 0, .int .i64 1]) (by simp (maxDischargeDepth := 8) [results, Try.results38, go_sem, *]) rfl ?_
      exact ⟨rfl, by (repeat' (first | (with_reducible exact Below.refl _ _) | (with_reducible refine Below.alloc ?_ ?_ _) | (with_reducible refine Below.setCell ?_ ?_ _) | (with_reducible refine Below.drew ?_) | (with_reducible refine below_drewN ?_ _) | (with_reducible assumption) | (with_reducible refine below_after (by with_reducible assumption) ?_) | go_size))⟩
    · rw [(wh_yes hp hk).1, (wh_yes hp hk).2]
      have HK := Lib.hid (isPoint_any x y)
      have HW : Hid (∀ w1, Below w.heap.size w w1 → Calls Try.prog 75 #[.slice a n cap, .agg #[.int .i64 x, .int .i64 y]] w1 fun e w' => e = .returned (.int .i64 (whL ps (x, y))) ∧ Below w1.heap.size w1 w') := fun w1 hb => whereIn_lp a n cap ps x y w1 (HL.out.below hb) hk
      rw [hk] at HK
      obtain ⟨V, hV⟩ : ∃ V, whL ps (x, y) = V := ⟨_, rfl⟩
      rw [hV] at HW ⊢
      clear h hp hk hV
      go_enter Try.func38, Try.ntmps38
      go_wp2_with (first | (go_at_call 20; refine (HI.out _ (by (repeat' (first | (with_reducible exact Below.refl _ _) | (with_reducible refine Below.alloc ?_ ?_ _) | (with_reducible refine Below.setCell ?_ ?_ _) | (with_reducible refine Below.drew ?_) | (with_reducible refine below_drewN ?_ _) | (with_reducible assumption) | (with_reducible refine below_after (by with_reducible assumption) ?_) | go_size)))).mono ?_; rintro e w1 ⟨rfl, hb⟩; obtain ⟨q0, q1⟩ := HX.out _ hb) | (go_at_call 74; refine (HK.out _).mono ?_; rintro e w2 ⟨rfl, hb2⟩; obtain ⟨q2, q3⟩ := HX.out _ (below_after hb2 hb)) | (go_at_call 75; refine (HW.out _ (by (repeat' (first | (with_reducible exact Below.refl _ _) | (with_reducible refine Below.alloc ?_ ?_ _) | (with_reducible refine Below.setCell ?_ ?_ _) | (with_reducible refine Below.drew ?_) | (with_reducible refine below_drewN ?_ _) | (with_reducible assumption) | (with_reducible refine below_after (by with_reducible assumption) ?_) | go_size)))).mono ?_; rintro e w3 ⟨rfl, hb3⟩))
      refine bodyPost_ret (v := .tuple #[.int .i64 V, .int .i64 0]) (by simp (maxDischargeDepth := 8) [results, Try.results38, go_sem, *]) rfl ?_
      exact ⟨rfl, by (repeat' (first | (with_reducible exact Below.refl _ _) | (with_reducible refine Below.alloc ?_ ?_ _) | (with_reducible refine Below.setCell ?_ ?_ _) | (with_reducible refine Below.drew ?_) | (with_reducible refine below_drewN ?_ _) | (with_reducible assumption) | (with_reducible refine below_after (by with_reducible assumption) ?_) | go_size))⟩
theorem l09Where_lp (a : Option Addr) (n cap : Nat) (ps : List (Int × Int)) (x y : Int) (w : World) (h : LP w a n ps) (hp : isPt (x, y) = true) : Calls Try.prog 73 #[.slice a n cap, .agg #[.int .i64 x, .int .i64 y]] w fun e w' => e = .returned (.int .i64 (whL ps (x, y))) ∧ Below w.heap.size w w' := by
  obtain ⟨g, rfl, h1, h2, h3, h4, h5, h6⟩ := h
  exact l09Where_some ps n g cap x y w h1 h2 h3 h4 h5 h6 hp
theorem spec_WhereInPolygon_any (a : Option Addr) (n cap : Nat) (ps : List (Int × Int)) (x y : Int) (w : World) (h : LV w a n ps) : Calls Try.prog 36 #[.slice a n cap, .agg #[.int .i64 x, .int .i64 y]] w fun e w' => e = .returned (.tuple #[.int .i64 (whV ps x y), .int .i64 (whC ps x y)]) ∧ Below w.heap.size w w' := by
  have HI := Lib.hid (fun w1 (hb : Below w.heap.size w w1) => l09Is_any a n cap ps w1 (h.below hb))
  have HX : Hid (∀ W', Below (w.alloc (.cells #[.int .i64 x, .int .i64 y] 38)).heap.size (w.alloc (.cells #[.int .i64 x, .int .i64 y] 38)) W' → W'.cell? ⟨w.heap.size, 0, none⟩ = some (.int .i64 x) ∧ W'.cell? ⟨w.heap.size, 1, none⟩ = some (.int .i64 y)) := by
    intro W' hB
    exact ⟨by rw [hB.cell (p := ⟨w.heap.size, 0, none⟩) (by simp)]; go_cell, by rw [hB.cell (p := ⟨w.heap.size, 1, none⟩) (by simp)]; go_cell⟩
  cases hp : isP ps
  · rw [(wh_no hp).1, (wh_no hp).2]
    rw [hp] at HI
    clear h hp
    go_enter Try.func36, Try.ntmps36
    go_wp2_with (go_at_call 52; refine (HI.out _ (by (repeat' (first | (with_reducible exact Below.refl _ _) | (with_reducible refine Below.alloc ?_ ?_ _) | (with_reducible refine Below.setCell ?_ ?_ _) | (with_reducible refine Below.drew ?_) | (with_reducible refine below_drewN ?_ _) | (with_reducible assumption) | (with_reducible refine below_after (by with_reducible assumption) ?_) | go_size)))).mono ?_; rintro e w1 ⟨rfl, hb⟩; obtain ⟨q0, q1⟩ := HX.out _ hb)
    refine bodyPost_ret (v := .tuple #[.int .i64 0, .int .i64 1]) (by simp (maxDischargeDepth := 8) [results, Try.results36, go_sem, *]) rfl ?_
    exact ⟨rfl, by (repeat' (first | (with_reducible exact Below.refl _ _) | (with_reducible refine Below.alloc ?_ ?_ _) | (with_reducible refine Below.setCell ?_ ?_ _) | (with_reducible refine Below.drew ?_) | (with_reducible refine below_drewN ?_ _) | (with_reducible assumption) | (with_reducible refine below_after (by with_reducible assumption) ?_) | go_size))⟩
  · rw [hp] at HI
    have HL := Lib.hid (h.poly hp)
    cases hk : isPt (x, y)
    · rw [(wh_pt hp hk).1, (wh_pt hp hk).2]
      have HK := Lib.hid (l01Is_any x y)
      rw [hk] at HK
      clear h hp hk
      go_enter Try.func36, Try.ntmps36
      go_wp2_with (first | (go_at_call 52; refine (HI.out _ (by (repeat' (first | (with_reducible exact Below.refl _ _) | (with_reducible refine Below.alloc ?_ ?_ _) | (with_reducible refine Below.setCell ?_ ?_ _) | (with_reducible refine Below.drew ?_) | (with_reducible refine below_drewN ?_ _) | (with_reducible assumption) | (with_reducible refine below_after (by with_reducible assumption) ?_) | go_size)))).mono ?_; rintro e w1 ⟨rfl, hb⟩; obtain ⟨q0, q1⟩ := HX.out _ hb) | (go_at_call 72; refine (HK.out _).mono ?_; rintro e w2 ⟨rfl, hb2⟩))
      refine bodyPost_ret (v := .tuple #[.int .i64 0, .int .i64 1]) (by simp (maxDischargeDepth := 8) [results, Try.results36, go_sem, *]) rfl ?_
      exact ⟨rfl, by (repeat' (first | (with_reducible exact Below.refl _ _) | (with_reducible refine Below.alloc ?_ ?_ _) | (with_reducible refine Below.setCell ?_ ?_ _) | (with_reducible refine Below.drew ?_) | (with_reducible refine below_drewN ?_ _) | (with_reducible assumption) | (with_reducible refine below_after (by with_reducible assumption) ?_) | go_size))⟩
    · rw [(wh_yes hp hk).1, (wh_yes hp hk).2]
      have HK := Lib.hid (l01Is_any x y)
      have HW : Hid (∀ w1, Below w.heap.size w w1 → Calls Try.prog 73 #[.slice a n cap, .agg #[.int .i64 x, .int .i64 y]] w1 fun e w' => e = .returned (.int .i64 (whL ps (x, y))) ∧ Below w1.heap.size w1 w') := fun w1 hb => l09Where_lp a n cap ps x y w1 (HL.out.below hb) hk
      rw [hk] at HK
      obtain ⟨V, hV⟩ : ∃ V, whL ps (x, y) = V := ⟨_, rfl⟩
      rw [hV] at HW ⊢
      clear h hp hk hV
      go_enter Try.func36, Try.ntmps36
      go_wp2_with (first | (go_at_call 52; refine (HI.out _ (by (repeat' (first | (with_reducible exact Below.refl _ _) | (with_reducible refine Below.alloc ?_ ?_ _) | (with_reducible refine Below.setCell ?_ ?_ _) | (with_reducible refine Below.drew ?_) | (with_reducible refine below_drewN ?_ _) | (with_reducible assumption) | (with_reducible refine below_after (by with_reducible assumption) ?_) | go_size)))).mono ?_; rintro e w1 ⟨rfl, hb⟩; obtain ⟨q0, q1⟩ := HX.out _ hb) | (go_at_call 72; refine (HK.out _).mono ?_; rintro e w2 ⟨rfl, hb2⟩; obtain ⟨q2, q3⟩ := HX.out _ (below_after hb2 hb)) | (go_at_call 73; refine (HW.out _ (by (repeat' (first | (with_reducible exact Below.refl _ _) | (with_reducible refine Below.alloc ?_ ?_ _) | (with_reducible refine Below.setCell ?_ ?_ _) | (with_reducible refine Below.drew ?_) | (with_reducible refine below_drewN ?_ _) | (with_reducible assumption) | (with_reducible refine below_after (by with_reducible assumption) ?_) | go_size)))).mono ?_; rintro e w3 ⟨rfl, hb3⟩))
      refine bodyPost_ret (v := .tuple #[.int .i64 V, .int .i64 0]) (by simp (maxDischargeDepth := 8) [results, Try.results36, go_sem, *]) rfl ?_
      exact ⟨rfl, by (repeat' (first | (with_reducible exact Below.refl _ _) | (with_reducible refine Below.alloc ?_ ?_ _) | (with_reducible refine Below.setCell ?_ ?_ _) | (with_reducible refine Below.drew ?_) | (with_reducible refine below_drewN ?_ _) | (with_reducible assumption) | (with_reducible refine below_after (by with_reducible assumption) ?_) | go_size))⟩
/-- The box of a point that came in, and memory below it. -/
def PK (w W : World) (x y : Int) : Prop := Below w.heap.size w W ∧ W.cell? ⟨w.heap.size, 0, none⟩ = some (.int .i64 x) ∧ W.cell? ⟨w.heap.size, 1, none⟩ = some (.int .i64 y)
theorem PK.below {w W W' : World} {x y : Int} (h : PK w W x y) (hb : Below W.heap.size W W') : PK w W' x y := by
  have hl := World.block_lt_of_cell? W _ h.2.1
  exact ⟨below_after hb h.1, (hb.cell (p := ⟨w.heap.size, 0, none⟩) hl).trans h.2.1, (hb.cell (p := ⟨w.heap.size, 1, none⟩) hl).trans h.2.2⟩
end Go.Proofs.Ytkfoelkkllpmdaa
