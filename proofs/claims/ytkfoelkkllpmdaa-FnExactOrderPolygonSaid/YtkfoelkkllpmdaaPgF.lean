/-
  Chapter 9's sums over the sides of a polygon, in the program (own work).
-/
import Derived.Test.YtkfoelkkllpmdaaPgA
import Derived.Test.YtkfoelkkllpmdaaAnT
import Derived.Test.YtkfoelkkllpmdaaPoD
namespace Go.Proofs.Ytkfoelkkllpmdaa
open Go.ChangeShapes Go.WideShapes Go.ChangeAt Go.RowKit Go.Shelf
set_option linter.unusedVariables false
set_option maxRecDepth 100000
set_option linter.unusedSimpArgs false
attribute [local go_sem] Oper.semAt_some

theorem keepsOthers_of_below {W W' : World} (h : Below W.heap.size W W') : KeepsOthers W W' := ⟨h.size, fun k o hk _ => (h.block k (Array.getElem?_eq_some_iff.1 hk).1).trans hk⟩
def inC (ps : List (Int × Int)) : Bool := ps.all fun p => isS p.1 p.2
theorem inC_pl {ps : List (Int × Int)} (h : inC ps = true) (h0 : 0 < ps.length) (k : Nat) : Sml (pl ps k).1 ∧ Sml (pl ps k).2 :=
  isS_iff.1 (List.all_eq_true.1 h _ (pl_mem h0 k))
theorem inC_pt {ps : List (Int × Int)} (h : inC ps = true) (h0 : 0 < ps.length) (k : Nat) : isPt (pl ps k) = true := (inC_pl h h0 k).1.pt (inC_pl h h0 k).2
/-- A box of one point. -/
def Pc (W : World) (A : Nat) (p : Int × Int) : Prop := W.heap[A]? = some (.cells #[.int .i64 p.1, .int .i64 p.2] 38 (0, 0))
theorem Pc.lt {W : World} {A : Nat} {p : Int × Int} (h : Pc W A p) : A < W.heap.size := (Array.getElem?_eq_some_iff.1 h).1
theorem Pc.c0 {W : World} {A : Nat} {p : Int × Int} (h : Pc W A p) : W.cell? ⟨A, 0, none⟩ = some (.int .i64 p.1) := by simp [World.cell?, show W.heap[A]? = _ from h]
theorem Pc.c1 {W : World} {A : Nat} {p : Int × Int} (h : Pc W A p) : W.cell? ⟨A, 1, none⟩ = some (.int .i64 p.2) := by simp [World.cell?, show W.heap[A]? = _ from h]
theorem Pc.below {W W' : World} {A : Nat} {p : Int × Int} (h : Pc W A p) (hb : Below W.heap.size W W') : Pc W' A p := (hb.block A h.lt).trans h
theorem Pc.own {W W' : World} {row : Option Nat} {A : Nat} {p : Int × Int} (h : Pc W A p) (hg : W.grownBy W' row) (hr : ∀ r, row = some r → ∃ o : Obj, W.heap[r]? = some o ∧ o.isCells = false) : Pc W' A p := (grownBy_keeps_cells hg hr h rfl).trans h
theorem boxed_below {W W' : World} {B : Nat} {t : TypeId} {v : Value} (h : Boxed W B t v) (hb : Below W.heap.size W W') : Boxed W' B t v := (hb.block B h.lt).trans h
theorem boxed_own1 {W W' : World} {row : Option Nat} {B : Nat} {t : TypeId} {v : Value} (h : Boxed W B t v) (hg : W.grownBy W' row) (hr : ∀ r, row = some r → ∃ o : Obj, W.heap[r]? = some o ∧ o.isCells = false) : Boxed W' B t v := (grownBy_keeps_cells hg hr h rfl).trans h
def sL {m : Nat} (f : Nat → Int) (pre : List (Fin m)) : Int := (pre.map fun x => f x.val).sum
theorem sL_snoc {m : Nat} (f : Nat → Int) (pre : List (Fin m)) (x : Fin m) : sL f (pre ++ [x]) = sL f pre + f x.val := by simp [sL]
theorem sL_bd {m : Nat} {f : Nat → Int} {A : Int} (h : ∀ k, -A ≤ f k ∧ f k ≤ A) : ∀ pre : List (Fin m), -(A * pre.length) ≤ sL f pre ∧ sL f pre ≤ A * pre.length
  | [] => by simp [sL]
  | x :: pre => by
    have a := sL_bd h pre
    have b := h x.val
    have e : sL f (x :: pre) = f x.val + sL f pre := by simp [sL]
    rw [e, List.length_cons, Int.natCast_add, Int.mul_add]
    have := Int.mul_one A
    simp only [Int.natCast_one]
    omega
theorem sum_range (f : Nat → Int) : ∀ m, ((List.range m).map f).sum = sg f m
  | 0 => rfl
  | m + 1 => by rw [List.range_succ, List.map_append, List.sum_append, sum_range f m]; simp [sg]
theorem sL_all {m : Nat} (f : Nat → Int) (ys : List (Fin m)) (hy : ys.map (·.val) = List.range m) : sL f ys = sg f m := by
  rw [← sum_range, ← hy, List.map_map]; rfl
def dvL (ps : List (Int × Int)) (k : Nat) : Int := dv (pl ps k) (pl ps (k + 1))
def gcL (ps : List (Int × Int)) (k : Nat) : Int := (Int.gcd (eg (pl ps) k).1 (eg (pl ps) k).2 : Int)
def areaL (ps : List (Int × Int)) : Int := sg (dvL ps) ps.length
def bordL (ps : List (Int × Int)) : Int := sg (gcL ps) ps.length
theorem dvL_bd {ps : List (Int × Int)} (h : inC ps = true) (h0 : 0 < ps.length) (k : Nat) : -2000000 ≤ dvL ps k ∧ dvL ps k ≤ 2000000 := by
  obtain ⟨a, b⟩ := inC_pl h h0 k
  obtain ⟨c, d⟩ := inC_pl h h0 (k + 1)
  unfold Sml at a b c d
  have m1 := mul_bd (A := 1000) (B := 1000) a.1 a.2 d.1 d.2
  have m2 := mul_bd (A := 1000) (B := 1000) b.1 b.2 c.1 c.2
  unfold dvL dv
  omega
theorem gcd_le {a b M : Int} (ha : -M ≤ a ∧ a ≤ M) (hb : -M ≤ b ∧ b ≤ M) : 0 ≤ (Int.gcd a b : Int) ∧ (Int.gcd a b : Int) ≤ M := by
  by_cases h : a = 0
  · subst h
    rw [Int.gcd_zero_left]; omega
  · have h1 : Int.gcd a b ∣ a.natAbs := Int.gcd_dvd_natAbs_left a b
    have h2 := Nat.le_of_dvd (by omega) h1
    omega
theorem gcL_bd {ps : List (Int × Int)} (h : inC ps = true) (h0 : 0 < ps.length) (k : Nat) : 0 ≤ gcL ps k ∧ gcL ps k ≤ 2000 := by
  obtain ⟨a, b⟩ := inC_pl h h0 k
  obtain ⟨c, d⟩ := inC_pl h h0 (k + 1)
  unfold Sml at a b c d
  unfold gcL eg sbv
  exact gcd_le (M := 2000) ⟨by simp only; omega, by simp only; omega⟩ ⟨by simp only; omega, by simp only; omega⟩
theorem gcL_bd2 {ps : List (Int × Int)} (h : inC ps = true) (h0 : 0 < ps.length) (k : Nat) : -2000000 ≤ gcL ps k ∧ gcL ps k ≤ 2000000 := by have := gcL_bd h h0 k; omega
set_option maxRecDepth 100000 in
set_option maxHeartbeats 2000000 in
theorem areaWithin_some (ps : List (Int × Int)) (m g cap : Nat) (w : World) (hps : ps.length = m) (h3 : 3 ≤ m) (hm : m ≤ 12) (hg : g < w.heap.size) (hc : PtCells w g 0 ps) (hin : inC ps = true) :
    Calls Try.prog 66 #[.slice (some ⟨g, 0, none⟩) m cap] w fun e w' => e = .returned (.int .i64 (areaL ps)) ∧ Below w.heap.size w w' := by
  have HBD := Lib.hid (fun k => dvL_bd hin (by omega) k)
  have HPT := Lib.hid (fun k => inC_pt hin (show 0 < ps.length by omega) k)
  have HPS := Lib.hid hps
  have HC := Lib.hid hc
  clear hc hin
  refine (callsIn_wide (n := 6)).1 ?_
  refine callsIn_of_wp_marks Try.func66 rfl trivial ?_ rfl
  simp only [Try.ntmps66, List.size_toArray, List.length_cons, List.length_nil, Nat.reduceAdd, Nat.reduceSub, Array.replicate_succ, Array.replicate_zero, List.push_toArray, List.append_toArray, List.nil_append, List.cons_append]
  gi_wp2_with (refine ⟨trivial, ?_⟩; gi_at_call 81; refine (callsIn_wide.2 (sides_any _ _ _ _)).mono ?_; rintro e wn ⟨rfl, rfl⟩)
  have HB : ∃ B, B = w.heap.size := ⟨_, rfl⟩
  refine wpIn_rangeFunc_ownH rfl (by omega) (gf := 121) (lb := #[.pointer (some ⟨w.heap.size + 1, 0, none⟩)]) rfl trivial (enters_of Try.func121 (by kernel_rfl) rfl)
    (sides_stops _ (by omega) (w.heap.size + 1) g m cap ps hps (by omega) (by omega) _ ?hBs ?hgl ?hcA ?hcB) kps_t (kps_b ?hBs1 ?hgl1) (Below.refl _ _) (fun _ => rfl)
    (fun pre W => Boxed W w.heap.size 2 (.int .i64 (sL (dvL ps) pre)) ∧ (Below w.heap.size w W ∧ w.heap.size + 2 ≤ W.heap.size))
    (fun _ _ _ => False)
    (OwnFrom.and (Own.from (boxed_own w.heap.size 2 (fun pre => .int .i64 (sL (dvL ps) pre))) _) (OwnFrom.and (ownFrom_below (Nat.le_refl _) (by simp; omega)) (fun _ _ _ _ hs hg _ => Nat.le_trans hs hg.size)))
    (fun _ _ _ _ _ hs _ _ => hs)
    ?h0
    (fun x a' W => ∃ A B, w.heap.size + 1 < A ∧ w.heap.size + 1 < B ∧ g < A ∧ g < B ∧ Pc W A (pl ps x.val) ∧ Pc W B (pl ps (x.val + 1)) ∧ a' = { tmps := #[.slice (some ⟨g, 0, none⟩) m cap, undef, .int .i64 0, .pointer (some ⟨w.heap.size, 0, none⟩), .pointer (some ⟨A, 0, none⟩), .pointer (some ⟨B, 0, none⟩), .slice (some ⟨g, 0, none⟩) m cap, .func (.func 121) #[] #[.pointer (some ⟨w.heap.size + 1, 0, none⟩)], .agg #[.int .i64 (pl ps x.val).1, .int .i64 (pl ps x.val).2], .agg #[.int .i64 (pl ps (x.val + 1)).1, .int .i64 (pl ps (x.val + 1)).2], undef, undef, undef, undef, undef, undef], defers := [] }) ?hAx ?assign ?body ?done ?stop
  case hBs => simp
  case hgl => simp; omega
  case hcA => go_cell
  case hcB => exact ptCells_kept HC.out (by rw [Below.heap_alloc _ _ _ (by simp; omega), Below.heap_alloc _ _ _ hg])
  case hBs1 => simp
  case hgl1 => simp; omega
  case h0 =>
    refine ⟨(Boxed.new w 2 (.int .i64 0)).alloc _, ?_, by simp⟩
    (repeat' (first | (with_reducible exact Below.refl _ _) | (with_reducible refine Below.alloc ?_ ?_ _) | (with_reducible refine Below.setCell ?_ ?_ _) | (with_reducible refine Below.drew ?_) | (with_reducible refine below_drewN ?_ _) | (with_reducible assumption) | (with_reducible refine below_after (by with_reducible assumption) ?_) | go_size))
  case hAx =>
    rintro x a' _ W W' row ⟨A, B, h1, h2, h3, h4, h5, h6, h7⟩ hg hr
    exact ⟨A, B, h1, h2, h3, h4, h5.own hg (fun r e => (hr r e).2), h6.own hg (fun r e => (hr r e).2), h7⟩
  case assign =>
    rintro l pre x W K ⟨hI, hB, hz⟩ hK
    have hsz := hB.size
    have hIl := hI.lt
    unfold enS vP
    gi_wp2
    have b2 : Below W.heap.size W ((W.alloc (.cells #[.int .i64 (pl ps x.val).1, .int .i64 (pl ps x.val).2] 38)).alloc (.cells #[.int .i64 (pl ps (x.val + 1)).1, .int .i64 (pl ps (x.val + 1)).2] 38)) := by (repeat' (first | (with_reducible exact Below.refl _ _) | (with_reducible refine Below.alloc ?_ ?_ _) | (with_reducible refine Below.setCell ?_ ?_ _) | (with_reducible refine Below.drew ?_) | (with_reducible refine below_drewN ?_ _) | (with_reducible assumption) | (with_reducible refine below_after (by with_reducible assumption) ?_) | go_size))
    refine hK _ _ ((keepsOthers_of_below b2).from _) (kps_below b2 (by omega) (by omega)) ⟨boxed_below hI b2, hB.trans (b2.mono hsz), Nat.le_trans hz b2.size⟩ ?_
    refine ⟨W.heap.size, W.heap.size + 1, by omega, by omega, by omega, by omega, ?_, ?_, rfl⟩
    · exact (Below.heap_alloc _ _ _ (by simp)).trans (World.alloc_heap_new W _)
    · have := World.alloc_heap_new (W.alloc (.cells #[.int .i64 (pl ps x.val).1, .int .i64 (pl ps x.val).2] 38)) (.cells #[.int .i64 (pl ps (x.val + 1)).1, .int .i64 (pl ps (x.val + 1)).2] 38)
      rwa [World.size_alloc] at this
  case body =>
    rintro l pre x a' W hl hrec ⟨hI, hB, hz⟩ ⟨A, B, h1, h2, h3, h4, hA, hB2, rfl⟩ hlt
    have HSN := Lib.hid (sL_snoc (dvL ps) pre x)
    obtain ⟨q1, q2⟩ := sL_bd HBD.out pre
    obtain ⟨q3, q4⟩ := HBD.out x.val
    have hpl : (pre.length : Int) ≤ 12 := by omega
    have HCALL : Hid (∀ w, Calls Try.prog 83 #[vP (pl ps x.val), vP (pl ps (x.val + 1))] w fun e w' => e = .returned (.int .i64 (dvL ps x.val)) ∧ Below w.heap.size w w') := fun w => determinant_any _ _ _ _ w (isPt_bn1 (HPT.out x.val)) (isPt_bn2 (HPT.out x.val)) (isPt_bn1 (HPT.out (x.val + 1))) (isPt_bn2 (HPT.out (x.val + 1)))
    have HNE : Hid (A ≠ w.heap.size ∧ B ≠ w.heap.size) := ⟨by omega, by omega⟩
    unfold vP at HCALL
    have hD : -100000000 ≤ dvL ps x.val ∧ dvL ps x.val ≤ 100000000 := by omega
    have hC : -2000000000 ≤ sL (dvL ps) pre ∧ sL (dvL ps) pre ≤ 2000000000 := by omega
    clear q1 q2 q3 q4
    obtain ⟨X0, X1, hX⟩ : ∃ a b, pl ps x.val = (a, b) := ⟨_, _, rfl⟩
    obtain ⟨Y0, Y1, hY⟩ : ∃ a b, pl ps (x.val + 1) = (a, b) := ⟨_, _, rfl⟩
    obtain ⟨D, hDe⟩ : ∃ D, dvL ps x.val = D := ⟨_, rfl⟩
    obtain ⟨C, hCe⟩ : ∃ C, sL (dvL ps) pre = C := ⟨_, rfl⟩
    rw [hX] at hA HCALL ⊢
    rw [hY] at hB2 HCALL ⊢
    rw [hDe] at hD HCALL HSN
    rw [hCe] at hI hC HSN
    clear hX hY hDe hCe hpl
    obtain ⟨c1, c2⟩ := hC
    obtain ⟨d1, d2⟩ := hD
    have q : IntKind.i64.wrap (C + D) = C + D := by rw [IntKind.wrap_i64]; omega
    gi_wp2
    refine wpIn_region_roundT (fun i => i == 5) (fun W1 => Below w.heap.size w W1 ∧ Boxed W1 w.heap.size 2 (.int .i64 C) ∧ Pc W1 A (X0, X1) ∧ Pc W1 B (Y0, Y1)) (by kernel_rfl) (by kernel_rfl) (fun _ _ q => q) ?_ (fun hS => ?_)
    · exact ⟨Below.drew hB, hI, hA, hB2⟩
    (refine wpAnyT_take (i := 0) (v := ?_) rfl (by kernel_rfl) (by kernel_rfl) (by kernel_rfl) (by kernel_rfl) (fun _ _ _ h => h) (Or.inl ⟨rfl, ?_⟩) hS (by kernel_rfl) ?_; rotate_left; focus (intro W1 hSw; (try dsimp only at hSw); have k2 := hSw.2.1.cell; have k3 := hSw.2.2.1.c0; have k4 := hSw.2.2.1.c1; have k5 := hSw.2.2.2.c0; have k6 := hSw.2.2.2.c1; go_simp; try (with_reducible rfl))); (try simp only [Act.put, List.getElem_toArray, List.getElem_cons_succ, List.getElem_cons_zero, List.setIfInBounds_toArray, List.set_cons_zero, List.set_cons_succ])
    (refine wpAnyT_take (i := 1) (v := ?_) rfl (by kernel_rfl) (by kernel_rfl) (by kernel_rfl) (by kernel_rfl) (fun _ _ _ h => h) (Or.inl ⟨rfl, ?_⟩) hS (by kernel_rfl) ?_; rotate_left; focus (intro W1 hSw; (try dsimp only at hSw); have k2 := hSw.2.1.cell; have k3 := hSw.2.2.1.c0; have k4 := hSw.2.2.1.c1; have k5 := hSw.2.2.2.c0; have k6 := hSw.2.2.2.c1; go_simp; try (with_reducible rfl))); (try simp only [Act.put, List.getElem_toArray, List.getElem_cons_succ, List.getElem_cons_zero, List.setIfInBounds_toArray, List.set_cons_zero, List.set_cons_succ])
    (refine wpAnyT_take (i := 2) (v := ?_) rfl (by kernel_rfl) (by kernel_rfl) (by kernel_rfl) (by kernel_rfl) (fun _ _ _ h => h) (Or.inl ⟨rfl, ?_⟩) hS (by kernel_rfl) ?_; rotate_left; focus (intro W1 hSw; (try dsimp only at hSw); have k2 := hSw.2.1.cell; have k3 := hSw.2.2.1.c0; have k4 := hSw.2.2.1.c1; have k5 := hSw.2.2.2.c0; have k6 := hSw.2.2.2.c1; go_simp; try (with_reducible rfl))); (try simp only [Act.put, List.getElem_toArray, List.getElem_cons_succ, List.getElem_cons_zero, List.setIfInBounds_toArray, List.set_cons_zero, List.set_cons_succ])
    refine wpAnyT_one (i := 3) (by kernel_rfl) rfl (fun K hK => ?_)
    go_simp
    go_at_call 83
    refine (HCALL.out _).mono ?_
    rintro e w4 ⟨rfl, hb⟩
    have hS := (⟨below_after hb hS.1, boxed_below hS.2.1 hb, hS.2.2.1.below hb, hS.2.2.2.below hb⟩ : (fun W1 => Below w.heap.size w W1 ∧ Boxed W1 w.heap.size 2 (.int .i64 C) ∧ Pc W1 A (X0, X1) ∧ Pc W1 B (Y0, Y1)) w4)
    have hb0 : Below W.heap.size W w4 := (Below.drew (Below.refl _ _)).trans hb
    refine hK _ _ (fun _ _ => hS) ?_
    clear hK K hb
    (try simp only [Act.put, List.getElem_toArray, List.getElem_cons_succ, List.getElem_cons_zero, List.setIfInBounds_toArray, List.set_cons_zero, List.set_cons_succ])
    refine wpAnyT_one (i := 4) (by kernel_rfl) rfl (fun K hK => ?_)
    go_simp
    refine hK _ _ (fun _ _ => hS) ?_
    clear hK K
    (try simp only [Act.put, List.getElem_toArray, List.getElem_cons_succ, List.getElem_cons_zero, List.setIfInBounds_toArray, List.set_cons_zero, List.set_cons_succ])
    refine wpAnyT_one (i := 5) (by kernel_rfl) rfl (fun K hK => ?_)
    have f0 := hS.2.1.frozen
    have f1 := hS.2.1.cell
    go_simp
    refine hK _ _ (fun e => by cases e) ?_
    clear hK K
    (try simp only [Act.put, List.getElem_toArray, List.getElem_cons_succ, List.getElem_cons_zero, List.setIfInBounds_toArray, List.set_cons_zero, List.set_cons_succ])
    refine wpAnyT_done (by kernel_rfl) ?_ _
    gi_wp2
    have hIl := hI.lt
    refine ⟨((keepsOthers_of_below hb0).trans (KeepsOthers.setCell w4 ⟨w.heap.size, 0, none⟩ (.int .i64 (C + D)))).from _, ⟨?_, ?_⟩, ?_, ?_, ?_⟩
    · rw [Below.heap_setCell _ _ _ _ (by simp)]; exact hb0.block _ (by omega)
    · rw [Below.heap_setCell _ _ _ _ (by simp; omega)]; exact hb0.block _ (by omega)
    · rw [HSN.out]; exact hS.2.1.set _
    · exact hS.1.setCell (p := ⟨w.heap.size, 0, none⟩) (Nat.le_refl _) _
    · simpa using Nat.le_trans hz hb0.size
  case done =>
    rintro D ys W hD hy ⟨hI, hB, hz⟩ hK
    have hS := sL_all (dvL ps) ys hy
    rw [hS] at hI
    have hR : areaL ps = sg (dvL ps) m := by unfold areaL; rw [HPS.out]
    have k1 := hI.cell
    gi_wp2
    refine ⟨by simp, .inl ⟨_, _, rfl, run_takeDeferred hK, ?_⟩⟩
    refine ⟨.int .i64 (sg (dvL ps) m), ?_, by rw [hR], hB.trans (belowK_b (w := w) (Nat.le_refl _) W D _ _ (by simp at hD; omega) hK rfl rfl)⟩
    simp [results, Try.f66, go_sem]
  case stop =>
    rintro D c pre W _ _ h _
    exact h.elim
set_option maxRecDepth 100000 in
set_option maxHeartbeats 2000000 in
theorem borderOf_some (ps : List (Int × Int)) (m g cap : Nat) (w : World) (hps : ps.length = m) (h3 : 3 ≤ m) (hm : m ≤ 12) (hg : g < w.heap.size) (hc : PtCells w g 0 ps) (hin : inC ps = true) :
    Calls Try.prog 68 #[.slice (some ⟨g, 0, none⟩) m cap] w fun e w' => e = .returned (.int .i64 (bordL ps)) ∧ Below w.heap.size w w' := by
  have HBD := Lib.hid (fun k => gcL_bd2 hin (by omega) k)
  have HPT := Lib.hid (fun k => inC_pt hin (show 0 < ps.length by omega) k)
  have HPS := Lib.hid hps
  have HC := Lib.hid hc
  clear hc hin
  refine (callsIn_wide (n := 6)).1 ?_
  refine callsIn_of_wp_marks Try.func68 rfl trivial ?_ rfl
  simp only [Try.ntmps68, List.size_toArray, List.length_cons, List.length_nil, Nat.reduceAdd, Nat.reduceSub, Array.replicate_succ, Array.replicate_zero, List.push_toArray, List.append_toArray, List.nil_append, List.cons_append]
  gi_wp2_with (refine ⟨trivial, ?_⟩; gi_at_call 81; refine (callsIn_wide.2 (sides_any _ _ _ _)).mono ?_; rintro e wn ⟨rfl, rfl⟩)
  have HB : ∃ B, B = w.heap.size := ⟨_, rfl⟩
  refine wpIn_rangeFunc_ownH rfl (by omega) (gf := 121) (lb := #[.pointer (some ⟨w.heap.size + 1, 0, none⟩)]) rfl trivial (enters_of Try.func121 (by kernel_rfl) rfl)
    (sides_stops _ (by omega) (w.heap.size + 1) g m cap ps hps (by omega) (by omega) _ ?hBs ?hgl ?hcA ?hcB) kps_t (kps_b ?hBs1 ?hgl1) (Below.refl _ _) (fun _ => rfl)
    (fun pre W => Boxed W w.heap.size 2 (.int .i64 (sL (gcL ps) pre)) ∧ (Below w.heap.size w W ∧ w.heap.size + 2 ≤ W.heap.size))
    (fun _ _ _ => False)
    (OwnFrom.and (Own.from (boxed_own w.heap.size 2 (fun pre => .int .i64 (sL (gcL ps) pre))) _) (OwnFrom.and (ownFrom_below (Nat.le_refl _) (by simp; omega)) (fun _ _ _ _ hs hg _ => Nat.le_trans hs hg.size)))
    (fun _ _ _ _ _ hs _ _ => hs)
    ?h0
    (fun x a' W => ∃ A B, w.heap.size + 1 < A ∧ w.heap.size + 1 < B ∧ g < A ∧ g < B ∧ Pc W A (pl ps x.val) ∧ Pc W B (pl ps (x.val + 1)) ∧ a' = { tmps := #[.slice (some ⟨g, 0, none⟩) m cap, undef, .int .i64 0, .pointer (some ⟨w.heap.size, 0, none⟩), .pointer (some ⟨A, 0, none⟩), .pointer (some ⟨B, 0, none⟩), .slice (some ⟨g, 0, none⟩) m cap, .func (.func 121) #[] #[.pointer (some ⟨w.heap.size + 1, 0, none⟩)], .agg #[.int .i64 (pl ps x.val).1, .int .i64 (pl ps x.val).2], .agg #[.int .i64 (pl ps (x.val + 1)).1, .int .i64 (pl ps (x.val + 1)).2], undef, undef, undef, undef, undef, undef], defers := [] }) ?hAx ?assign ?body ?done ?stop
  case hBs => simp
  case hgl => simp; omega
  case hcA => go_cell
  case hcB => exact ptCells_kept HC.out (by rw [Below.heap_alloc _ _ _ (by simp; omega), Below.heap_alloc _ _ _ hg])
  case hBs1 => simp
  case hgl1 => simp; omega
  case h0 =>
    refine ⟨(Boxed.new w 2 (.int .i64 0)).alloc _, ?_, by simp⟩
    (repeat' (first | (with_reducible exact Below.refl _ _) | (with_reducible refine Below.alloc ?_ ?_ _) | (with_reducible refine Below.setCell ?_ ?_ _) | (with_reducible refine Below.drew ?_) | (with_reducible refine below_drewN ?_ _) | (with_reducible assumption) | (with_reducible refine below_after (by with_reducible assumption) ?_) | go_size))
  case hAx =>
    rintro x a' _ W W' row ⟨A, B, h1, h2, h3, h4, h5, h6, h7⟩ hg hr
    exact ⟨A, B, h1, h2, h3, h4, h5.own hg (fun r e => (hr r e).2), h6.own hg (fun r e => (hr r e).2), h7⟩
  case assign =>
    rintro l pre x W K ⟨hI, hB, hz⟩ hK
    have hsz := hB.size
    have hIl := hI.lt
    unfold enS vP
    gi_wp2
    have b2 : Below W.heap.size W ((W.alloc (.cells #[.int .i64 (pl ps x.val).1, .int .i64 (pl ps x.val).2] 38)).alloc (.cells #[.int .i64 (pl ps (x.val + 1)).1, .int .i64 (pl ps (x.val + 1)).2] 38)) := by (repeat' (first | (with_reducible exact Below.refl _ _) | (with_reducible refine Below.alloc ?_ ?_ _) | (with_reducible refine Below.setCell ?_ ?_ _) | (with_reducible refine Below.drew ?_) | (with_reducible refine below_drewN ?_ _) | (with_reducible assumption) | (with_reducible refine below_after (by with_reducible assumption) ?_) | go_size))
    refine hK _ _ ((keepsOthers_of_below b2).from _) (kps_below b2 (by omega) (by omega)) ⟨boxed_below hI b2, hB.trans (b2.mono hsz), Nat.le_trans hz b2.size⟩ ?_
    refine ⟨W.heap.size, W.heap.size + 1, by omega, by omega, by omega, by omega, ?_, ?_, rfl⟩
    · exact (Below.heap_alloc _ _ _ (by simp)).trans (World.alloc_heap_new W _)
    · have := World.alloc_heap_new (W.alloc (.cells #[.int .i64 (pl ps x.val).1, .int .i64 (pl ps x.val).2] 38)) (.cells #[.int .i64 (pl ps (x.val + 1)).1, .int .i64 (pl ps (x.val + 1)).2] 38)
      rwa [World.size_alloc] at this
  case body =>
    rintro l pre x a' W hl hrec ⟨hI, hB, hz⟩ ⟨A, B, h1, h2, h3, h4, hA, hB2, rfl⟩ hlt
    have HSN := Lib.hid (sL_snoc (gcL ps) pre x)
    obtain ⟨q1, q2⟩ := sL_bd HBD.out pre
    obtain ⟨q3, q4⟩ := HBD.out x.val
    have hpl : (pre.length : Int) ≤ 12 := by omega
    have HCALL : Hid (∀ w, Calls Try.prog 110 #[vP (pl ps x.val), vP (pl ps (x.val + 1))] w fun e w' => e = .returned (.int .i64 (gcL ps x.val)) ∧ Below w.heap.size w w') := fun w => lengthBetween_any _ _ _ _ w (isPt_bn1 (HPT.out x.val)) (isPt_bn2 (HPT.out x.val)) (isPt_bn1 (HPT.out (x.val + 1))) (isPt_bn2 (HPT.out (x.val + 1)))
    have HNE : Hid (A ≠ w.heap.size ∧ B ≠ w.heap.size) := ⟨by omega, by omega⟩
    unfold vP at HCALL
    have hD : -100000000 ≤ gcL ps x.val ∧ gcL ps x.val ≤ 100000000 := by omega
    have hC : -2000000000 ≤ sL (gcL ps) pre ∧ sL (gcL ps) pre ≤ 2000000000 := by omega
    clear q1 q2 q3 q4
    obtain ⟨X0, X1, hX⟩ : ∃ a b, pl ps x.val = (a, b) := ⟨_, _, rfl⟩
    obtain ⟨Y0, Y1, hY⟩ : ∃ a b, pl ps (x.val + 1) = (a, b) := ⟨_, _, rfl⟩
    obtain ⟨D, hDe⟩ : ∃ D, gcL ps x.val = D := ⟨_, rfl⟩
    obtain ⟨C, hCe⟩ : ∃ C, sL (gcL ps) pre = C := ⟨_, rfl⟩
    rw [hX] at hA HCALL ⊢
    rw [hY] at hB2 HCALL ⊢
    rw [hDe] at hD HCALL HSN
    rw [hCe] at hI hC HSN
    clear hX hY hDe hCe hpl
    obtain ⟨c1, c2⟩ := hC
    obtain ⟨d1, d2⟩ := hD
    have q : IntKind.i64.wrap (C + D) = C + D := by rw [IntKind.wrap_i64]; omega
    gi_wp2
    refine wpIn_region_roundT (fun i => i == 5) (fun W1 => Below w.heap.size w W1 ∧ Boxed W1 w.heap.size 2 (.int .i64 C) ∧ Pc W1 A (X0, X1) ∧ Pc W1 B (Y0, Y1)) (by kernel_rfl) (by kernel_rfl) (fun _ _ q => q) ?_ (fun hS => ?_)
    · exact ⟨Below.drew hB, hI, hA, hB2⟩
    (refine wpAnyT_take (i := 0) (v := ?_) rfl (by kernel_rfl) (by kernel_rfl) (by kernel_rfl) (by kernel_rfl) (fun _ _ _ h => h) (Or.inl ⟨rfl, ?_⟩) hS (by kernel_rfl) ?_; rotate_left; focus (intro W1 hSw; (try dsimp only at hSw); have k2 := hSw.2.1.cell; have k3 := hSw.2.2.1.c0; have k4 := hSw.2.2.1.c1; have k5 := hSw.2.2.2.c0; have k6 := hSw.2.2.2.c1; go_simp; try (with_reducible rfl))); (try simp only [Act.put, List.getElem_toArray, List.getElem_cons_succ, List.getElem_cons_zero, List.setIfInBounds_toArray, List.set_cons_zero, List.set_cons_succ])
    (refine wpAnyT_take (i := 1) (v := ?_) rfl (by kernel_rfl) (by kernel_rfl) (by kernel_rfl) (by kernel_rfl) (fun _ _ _ h => h) (Or.inl ⟨rfl, ?_⟩) hS (by kernel_rfl) ?_; rotate_left; focus (intro W1 hSw; (try dsimp only at hSw); have k2 := hSw.2.1.cell; have k3 := hSw.2.2.1.c0; have k4 := hSw.2.2.1.c1; have k5 := hSw.2.2.2.c0; have k6 := hSw.2.2.2.c1; go_simp; try (with_reducible rfl))); (try simp only [Act.put, List.getElem_toArray, List.getElem_cons_succ, List.getElem_cons_zero, List.setIfInBounds_toArray, List.set_cons_zero, List.set_cons_succ])
    (refine wpAnyT_take (i := 2) (v := ?_) rfl (by kernel_rfl) (by kernel_rfl) (by kernel_rfl) (by kernel_rfl) (fun _ _ _ h => h) (Or.inl ⟨rfl, ?_⟩) hS (by kernel_rfl) ?_; rotate_left; focus (intro W1 hSw; (try dsimp only at hSw); have k2 := hSw.2.1.cell; have k3 := hSw.2.2.1.c0; have k4 := hSw.2.2.1.c1; have k5 := hSw.2.2.2.c0; have k6 := hSw.2.2.2.c1; go_simp; try (with_reducible rfl))); (try simp only [Act.put, List.getElem_toArray, List.getElem_cons_succ, List.getElem_cons_zero, List.setIfInBounds_toArray, List.set_cons_zero, List.set_cons_succ])
    refine wpAnyT_one (i := 3) (by kernel_rfl) rfl (fun K hK => ?_)
    go_simp
    go_at_call 110
    refine (HCALL.out _).mono ?_
    rintro e w4 ⟨rfl, hb⟩
    have hS := (⟨below_after hb hS.1, boxed_below hS.2.1 hb, hS.2.2.1.below hb, hS.2.2.2.below hb⟩ : (fun W1 => Below w.heap.size w W1 ∧ Boxed W1 w.heap.size 2 (.int .i64 C) ∧ Pc W1 A (X0, X1) ∧ Pc W1 B (Y0, Y1)) w4)
    have hb0 : Below W.heap.size W w4 := (Below.drew (Below.refl _ _)).trans hb
    refine hK _ _ (fun _ _ => hS) ?_
    clear hK K hb
    (try simp only [Act.put, List.getElem_toArray, List.getElem_cons_succ, List.getElem_cons_zero, List.setIfInBounds_toArray, List.set_cons_zero, List.set_cons_succ])
    refine wpAnyT_one (i := 4) (by kernel_rfl) rfl (fun K hK => ?_)
    go_simp
    refine hK _ _ (fun _ _ => hS) ?_
    clear hK K
    (try simp only [Act.put, List.getElem_toArray, List.getElem_cons_succ, List.getElem_cons_zero, List.setIfInBounds_toArray, List.set_cons_zero, List.set_cons_succ])
    refine wpAnyT_one (i := 5) (by kernel_rfl) rfl (fun K hK => ?_)
    have f0 := hS.2.1.frozen
    have f1 := hS.2.1.cell
    go_simp
    refine hK _ _ (fun e => by cases e) ?_
    clear hK K
    (try simp only [Act.put, List.getElem_toArray, List.getElem_cons_succ, List.getElem_cons_zero, List.setIfInBounds_toArray, List.set_cons_zero, List.set_cons_succ])
    refine wpAnyT_done (by kernel_rfl) ?_ _
    gi_wp2
    have hIl := hI.lt
    refine ⟨((keepsOthers_of_below hb0).trans (KeepsOthers.setCell w4 ⟨w.heap.size, 0, none⟩ (.int .i64 (C + D)))).from _, ⟨?_, ?_⟩, ?_, ?_, ?_⟩
    · rw [Below.heap_setCell _ _ _ _ (by simp)]; exact hb0.block _ (by omega)
    · rw [Below.heap_setCell _ _ _ _ (by simp; omega)]; exact hb0.block _ (by omega)
    · rw [HSN.out]; exact hS.2.1.set _
    · exact hS.1.setCell (p := ⟨w.heap.size, 0, none⟩) (Nat.le_refl _) _
    · simpa using Nat.le_trans hz hb0.size
  case done =>
    rintro D ys W hD hy ⟨hI, hB, hz⟩ hK
    have hS := sL_all (gcL ps) ys hy
    rw [hS] at hI
    have hR : bordL ps = sg (gcL ps) m := by unfold bordL; rw [HPS.out]
    have k1 := hI.cell
    gi_wp2
    refine ⟨by simp, .inl ⟨_, _, rfl, run_takeDeferred hK, ?_⟩⟩
    refine ⟨.int .i64 (sg (gcL ps) m), ?_, by rw [hR], hB.trans (belowK_b (w := w) (Nat.le_refl _) W D _ _ (by simp at hD; omega) hK rfl rfl)⟩
    simp [results, Try.f68, go_sem]
  case stop =>
    rintro D c pre W _ _ h _
    exact h.elim
end Go.Proofs.Ytkfoelkkllpmdaa
