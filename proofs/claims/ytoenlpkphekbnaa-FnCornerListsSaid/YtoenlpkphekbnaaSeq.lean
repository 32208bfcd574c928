/-
  The library's AppendSeq and Collect over int64, by their contracts, and the long expansion as an iterator (own work).
-/
import Derived.RangeFuncBox
import Derived.Maps.AppendAt
import Derived.Test.YtoenlpkphekbnaaBack
namespace Go.Proofs.Ytoenlpkphekbnaa
open Go.ChangeShapes Go.WideShapes Go.ChangeAt Go.RowKit Go.Shelf
set_option linter.unusedVariables false
set_option maxRecDepth 100000
set_option linter.unusedSimpArgs false
attribute [local go_sem] Oper.semAt_some

/-- One number handed to yield. -/
def en (x : Int) : Array Value := #[.int .i64 x]
def Any2 (W W' : World) : Prop := True
set_option maxRecDepth 100000 in
set_option maxHeartbeats 2000000 in
theorem appendSeq_in (n : Nat) (hn : 3 ≤ n) (gf : FuncId) (lb : Array Value) (eg : ∀ args w, (callFunc gf args).run Try.prog w = .ok (.enter gf args) w) (S Sp : List Int → Prop) (N : Nat) (hN : N ≤ 1048576) (w : World)
    (hseq : SeqStopsK Fence.wide (n - 1) Try.prog gf lb en Any2 S Sp N w) :
    CallsIn Fence.wide n Try.prog 137 #[.slice none 0 0, .func (.func gf) #[] lb] w fun e W' => ∃ v ss, e = .returned v ∧ S ss ∧ OwnI w.heap.size W' v ss ∧ Below w.heap.size w W' := by
  have h1 : 1 ≤ n := by omega
  obtain ⟨i0, hi, hz0, hz1, hz2⟩ := info_parts info_int
  have HS := Lib.hid hseq
  clear hseq
  refine callsIn_of_wp_marks Try.func137 rfl trivial ?_ rfl
  simp only [Try.ntmps137, List.size_toArray, List.length_cons, List.length_nil, Nat.reduceAdd, Nat.reduceSub, Array.replicate_succ, Array.replicate_zero, List.push_toArray, List.append_toArray, List.nil_append, List.cons_append]
  gi_wp2
  have bO := Boxed.new w 66 (.slice none 0 0)
  have hB0 : Below w.heap.size w (w.alloc (.cells #[.slice none 0 0] 66)) := (Below.refl _ w).alloc (Nat.le_refl _) _
  refine wpIn_rangeFunc_ownG rfl h1 (gf := gf) (lb := lb) rfl trivial eg HS.out (fun _ _ => trivial) (fun _ _ _ _ _ _ _ _ => trivial) hB0 (fun _ => rfl)
    (fun pre W => (∃ v, Boxed W w.heap.size 66 v ∧ W.ownsRow w.heap.size 2 1 v pre.length (pre.map (Value.int .i64))) ∧ Below w.heap.size w W)
    (fun _ _ _ => False)
    (OwnFrom.and (Own.from (fun s A B row hs hg hr => by
      have h := holdsRow_own w.heap.size w.heap.size 66 2 1 (fun pre : List Int => pre.length) (fun pre => pre.map (Value.int .i64)) (fun _ _ => True) s A B row
      obtain ⟨v, h1, h2⟩ := hs
      obtain ⟨v, h1, h2, _⟩ := h ⟨v, h1, h2, trivial⟩ hg hr
      exact ⟨v, h1, h2⟩) _) (ownFrom_below (Nat.le_refl _) (by simp)))
    (fun _ _ _ _ _ hs _ _ => hs)
    ⟨⟨_, bO, World.ownsRow_nil _ _ _ _⟩, hB0⟩
    (fun x => { tmps := #[.slice none 0 0, .func (.func gf) #[] lb, .pointer (some ⟨w.heap.size, 0, none⟩), undef, .slice none 0 0, .int .i64 x, .func (.func gf) #[] lb, .int .i64 x, undef, undef, undef, undef, undef], defers := [] }) ?assign ?body ?done ?stop
  case assign =>
    intro l x W K hK
    unfold en
    gi_wp2
    exact hK
  case body =>
    rintro l pre x W ⟨⟨v, hv, hrow⟩, hB⟩ hlt
    have hc := hv.cell
    gi_wp2_with (gi_at_builtin; refine wpListIn_append_own _ rfl _ _ 66 rfl w.heap.size 2 i0 (.int .i64 0) 1 8 Try.underlying66 hi hz0 hz1 hz2 rfl (by decide) _ _ _ rfl (hrow.alloc _) ⟨W.heap.size, 0, none⟩ 1 1 [.int .i64 x] rfl rfl (cell_one_new _ _ _) (by simp [Value.oneCell']) (by unfold maxLen; omega) (by omega) (by have := hB.size; simp; omega) ?_; intro v' w1 hown' hgrow _; obtain ⟨g', cap', rfl⟩ := ownsRow_succ hown'; obtain ⟨hv1, hv2, hr2, hk2, hb2⟩ := hv.appended (by decide) hrow hB.size (Nat.le_refl _) hown' hgrow; have hc1 := hv1.cell; have hf1 := hv1.frozen)
    exact ⟨hk2.from _, trivial, ⟨_, hv2, by simpa using hr2⟩, hB.trans hb2⟩
  case done =>
    rintro D ys W hD hS ⟨⟨v, hv, hrow⟩, hB⟩ hK
    have hc := hv.cell
    gi_wp2
    refine ⟨by simp, .inl ⟨_, _, rfl, run_takeDeferred hK, ?_⟩⟩
    exact ⟨_, results_tmp rfl _ _ _, v, ys, rfl, hS, ownsRow_putObj hrow _ hK rfl, hB.trans (belowK_b (w := w) (Nat.le_refl _) W D _ _ (by simp at hD; omega) hK rfl rfl)⟩
  case stop =>
    rintro D c pre W _ _ h _
    exact h.elim
set_option maxHeartbeats 1000000 in
theorem collect_in (n : Nat) (hn : 4 ≤ n) (gf : FuncId) (lb : Array Value) (eg : ∀ args w, (callFunc gf args).run Try.prog w = .ok (.enter gf args) w) (S Sp : List Int → Prop) (N : Nat) (hN : N ≤ 1048576) (w : World)
    (hseq : SeqStopsK Fence.wide (n - 1 - 1) Try.prog gf lb en Any2 S Sp N w) :
    CallsIn Fence.wide n Try.prog 122 #[.func (.func gf) #[] lb] w fun e W' => ∃ v ss, e = .returned v ∧ S ss ∧ OwnI w.heap.size W' v ss ∧ Below w.heap.size w W' := by
  have HS := Lib.hid hseq
  clear hseq
  refine callsIn_of_wp Try.func122 rfl trivial ?_ rfl
  simp only [Try.ntmps122, List.size_toArray, List.length_cons, List.length_nil, Nat.reduceAdd, Nat.reduceSub, Array.replicate_succ, Array.replicate_zero, List.push_toArray, List.append_toArray, List.nil_append, List.cons_append]
  gi_wp2_with (refine ⟨trivial, fun _ => (by omega), ?_⟩; gi_at_call 137; refine (appendSeq_in (n - 1) (by omega) gf lb eg S Sp N hN _ HS.out).mono ?_; rintro e w' ⟨v, ss, rfl, hS, ho, hb⟩)
  go_ret
  exact ⟨v, ss, rfl, hS, ho, hb⟩
/-- The long expansion: with odd, the number of numbers so far is even. -/
def leN : Nat → Int → Int → Bool → List Int
  | 0, _, _, _ => []
  | f + 1, p, q, o => if p % q = 0 then (if o = true then [p / q] else [p / q - 1, 1]) else (p / q) :: leN f q (p % q) (!o)
theorem leN_end {f : Nat} {p q : Int} {o : Bool} (h : p % q = 0) : leN (f + 1) p q o = if o = true then [p / q] else [p / q - 1, 1] := by rw [leN, if_pos h]
theorem leN_go {f : Nat} {p q : Int} {o : Bool} (h : ¬ p % q = 0) : leN (f + 1) p q o = (p / q) :: leN f q (p % q) (!o) := by rw [leN, if_neg h]
theorem leN_len : ∀ (f : Nat) (p q : Int) (o : Bool), 1 ≤ f → 1 ≤ (leN f p q o).length
  | f + 1, p, q, o, _ => by
    rw [leN]
    split
    · split <;> simp
    · simp
theorem leN_le : ∀ (f : Nat) (p q : Int) (o : Bool), (leN f p q o).length ≤ f + 1
  | 0, _, _, _ => by simp [leN]
  | f + 1, p, q, o => by
    rw [leN]
    split
    · split <;> simp
    · have := leN_le f q (p % q) (!o); simp; omega
set_option maxRecDepth 100000 in
set_option maxHeartbeats 2000000 in
theorem longExp1_in (n : Nat) (hn : 1 ≤ n) (l Ba Bb : Nat) (s c : Int) (hs1 : 1 ≤ s) (hs2 : s ≤ 1000000) (hc1 : 1 ≤ c) (hc2 : c ≤ 1000000) (J Jx : List Int → World → Prop)
    (hY : ∀ pre x W, J pre W → pre.length < (leN c.toNat s c true).length → YieldAt Fence.wide (n - 1) Try.prog l #[.int .i64 x] W fun e W' =>
      (e = .returned (.bool true) ∧ J (pre ++ [x]) W') ∨ (e = .returned (.bool false) ∧ Jx (pre ++ [x]) W'))
    (W : World) (hA : W.cell? ⟨Ba, 0, none⟩ = some (.int .i64 s)) (hB : W.cell? ⟨Bb, 0, none⟩ = some (.int .i64 c)) (h0 : J [] W) (hJd : ∀ pre W k, J pre W → J pre (World.drewN W k)) :
    CallsIn Fence.wide n Try.prog 138 #[.func (.yield l) #[] #[], .pointer (some ⟨Ba, 0, none⟩), .pointer (some ⟨Bb, 0, none⟩)] W fun e W' => (∃ v, e = .returned v) ∧
      ((∃ ys, ys = leN c.toNat s c true ∧ J ys W') ∨ (∃ pre, Jx pre W')) := by
  refine callsIn_of_wp Try.func138 rfl trivial ?_ rfl
  simp only [Try.ntmps138, List.size_toArray, List.length_cons, List.length_nil, Nat.reduceAdd, Nat.reduceSub, Array.replicate_succ, Array.replicate_zero, List.push_toArray, List.append_toArray, List.nil_append, List.cons_append]
  gi_wp2
  gi_quiet (fail)
  gi_wp2
  gi_loopw [4, 5, 6] (fun tp tq to wr => ∃ (f : Nat) (p q : Int) (o : Bool) (pre : List Int), tp = .int .i64 p ∧ tq = .int .i64 q ∧ to = .bool o ∧ 0 ≤ p ∧ p ≤ 1000000 ∧ 1 ≤ q ∧ q ≤ 1000000 ∧ q.toNat ≤ f ∧ pre ++ leN f p q o = leN c.toNat s c true ∧ J pre wr) (fun _ tq _ _ => (intOf tq).toNat)
  case atStart => exact ⟨c.toNat, s, c, true, [], rfl, rfl, rfl, by omega, by omega, by omega, by omega, Nat.le_refl _, rfl, hJd _ _ _ h0⟩
  case round =>
    obtain ⟨f, p, q, o, pre, rfl, rfl, rfl, hp0, hp1, hq0, hq1, hf, htot, hJ⟩ := hrel
    obtain ⟨g, rfl⟩ : ∃ g, f = g + 1 := ⟨f - 1, by omega⟩
    have hne : pre.length < (leN c.toNat s c true).length := by
      have := leN_len (g + 1) p q o (by omega)
      rw [← htot, List.length_append]; omega
    have hq2 : ¬ q = 0 := by omega
    have hqb : (q == 0) = false := by simpa using hq2
    have hm : p.tmod q = p % q := Int.tmod_eq_emod_of_nonneg hp0
    have hd : p.tdiv q = p / q := Int.tdiv_eq_ediv_of_nonneg hp0
    have d0 : 0 ≤ p / q := Int.ediv_nonneg hp0 (by omega)
    have d1 : p / q ≤ p := Int.ediv_le_self _ hp0
    have m0 := Int.emod_nonneg p hq2
    have m1 := Int.emod_lt_of_pos p (by omega : 0 < q)
    have w1 : wrap64 (p / q) = p / q := IntWalk.wrap64_in _ (by omega)
    have w2 : wrap64 (p / q - 1) = p / q - 1 := IntWalk.wrap64_in _ (by omega)
    have w3 : wrap64 (p % q) = p % q := IntWalk.wrap64_in _ (by omega)
    have HT := Lib.hid htot
    have HN := Lib.hid hne
    clear htot hne
    by_cases hz : p % q = 0
    · have hzb : (p % q == 0) = true := by simpa using hz
      have HE := Lib.hid (leN_end (f := g) (o := o) hz)
      clear hz
      cases o
      · have hR0 := hY pre (p / q - 1) wr hJ HN.out
        have hn2 : (pre ++ [p / q - 1]).length < (leN c.toNat s c true).length := by
          rw [← HT.out, HE.out]; simp
        have HN2 := Lib.hid hn2
        clear hn2
        obtain ⟨fn, tmps, assign, body, hy, hR⟩ := hR0
        gi_wp2
        refine hR.mono ?_
        rintro e W3 (⟨rfl, hJ3⟩ | ⟨rfl, hJx3⟩)
        · have hR1 := hY (pre ++ [p / q - 1]) 1 W3 hJ3 HN2.out
          clear hy hR
          obtain ⟨fn, tmps, assign, body, hy, hR⟩ := hR1
          gi_wp2
          refine hR.mono ?_
          rintro e W4 (⟨rfl, hJ4⟩ | ⟨rfl, hJx4⟩)
          · gi_wp2
            go_end0
            exact ⟨⟨_, rfl⟩, .inl ⟨_, by rw [← HT.out, HE.out]; simp, hJ4⟩⟩
          · gi_wp2
            go_end0
            exact ⟨⟨_, rfl⟩, .inr ⟨_, hJx4⟩⟩
        · gi_wp2
          go_end0
          exact ⟨⟨_, rfl⟩, .inr ⟨_, hJx3⟩⟩
      · have hR0 := hY pre (p / q) wr hJ HN.out
        obtain ⟨fn, tmps, assign, body, hy, hR⟩ := hR0
        gi_wp2
        refine hR.mono ?_
        rintro e W3 (⟨rfl, hJ3⟩ | ⟨rfl, hJx3⟩)
        · gi_wp2
          go_end0
          exact ⟨⟨_, rfl⟩, .inl ⟨_, by rw [← HT.out, HE.out]; simp, hJ3⟩⟩
        · gi_wp2
          go_end0
          exact ⟨⟨_, rfl⟩, .inr ⟨_, hJx3⟩⟩
    · have hzb : (p % q == 0) = false := by simpa using hz
      have HE := Lib.hid (leN_go (f := g) (o := o) hz)
      have m2 : 1 ≤ p % q := by omega
      have hR0 := hY pre (p / q) wr hJ HN.out
      obtain ⟨fn, tmps, assign, body, hy, hR⟩ := hR0
      gi_wp2
      refine hR.mono ?_
      rintro e W3 (⟨rfl, hJ3⟩ | ⟨rfl, hJx3⟩)
      · gi_wp2
        gi_quiet (fail)
        gi_wp2
        go_roundw
        case rel => exact ⟨g, q, p % q, !o, pre ++ [p / q], rfl, rfl, rfl, by omega, by omega, by omega, by omega, by omega, by rw [← HT.out, HE.out]; simp, hJd _ _ _ hJ3⟩
        case measure => simp only [intOf]; omega
      · gi_wp2
        refine bodyPost_ret (results_none rfl _ _ _) rfl ?_
        exact ⟨⟨_, rfl⟩, .inr ⟨_, hJx3⟩⟩
theorem grownBy_drewN (W : World) (k : Nat) : W.grownBy (World.drewN W k) none := by
  constructor
  all_goals first | rfl | exact Nat.le_refl _ | (intros; rfl)
theorem longExp_stops (n : Nat) (hn : 1 ≤ n) (Ba Bb : Nat) (s c : Int) (hs1 : 1 ≤ s) (hs2 : s ≤ 1000000) (hc1 : 1 ≤ c) (hc2 : c ≤ 1000000) (w : World) (hBa : Ba < w.heap.size) (hBb : Bb < w.heap.size) (hA : w.cell? ⟨Ba, 0, none⟩ = some (.int .i64 s)) (hB : w.cell? ⟨Bb, 0, none⟩ = some (.int .i64 c)) :
    SeqStopsK Fence.wide n Try.prog 138 #[.pointer (some ⟨Ba, 0, none⟩), .pointer (some ⟨Bb, 0, none⟩)] en Any2 (fun ys => ys = leN c.toNat s c true) (fun _ => True) (leN c.toNat s c true).length w := fun l J Jx W hW hJ _ hY h0 =>
  (longExp1_in n hn l Ba Bb s c hs1 hs2 hc1 hc2 J Jx (fun pre x W1 h1 h2 => (hY pre x W1 h1 h2).mono fun e W' h => h.elim (fun h => .inl ⟨h.1, h.2.1⟩) (fun h => .inr h)) W ((hW.cell (p := ⟨Ba, 0, none⟩) hBa).trans hA) ((hW.cell (p := ⟨Bb, 0, none⟩) hBb).trans hB) h0 (fun pre W1 k h => hJ pre W1 _ none h (grownBy_drewN W1 k) (fun r e => by cases e))).mono fun e W' h => ⟨h.1, h.2.elim (fun h => .inl h) (fun h => .inr (by obtain ⟨pre, h⟩ := h; exact ⟨pre, trivial, h⟩))⟩
theorem longExpansion_any (s c : Int) (w : World) : Calls Try.prog 123 #[.int .i64 s, .int .i64 c] w fun e w' => e = .returned (.func (.func 138) #[] #[.pointer (some ⟨w.heap.size, 0, none⟩), .pointer (some ⟨w.heap.size + 1, 0, none⟩)]) ∧ w' = (w.alloc (.cells #[.int .i64 s] 2)).alloc (.cells #[.int .i64 c] 2) := by
  go_enter Try.func123, Try.ntmps123
  go_wp2
  go_ret
  exact ⟨rfl, rfl⟩
theorem own_monoB {w : World} {base base' : Nat} {e : TypeId} {size : Nat} {v : Value} {n : Nat} {xs : List Value} (h : w.ownsRow base e size v n xs) (hb : base' ≤ base) : w.ownsRow base' e size v n xs := by
  refine ⟨h.1, ?_⟩
  rcases h.2 with h' | ⟨g, cap, cur, h1, h2, h3⟩
  · exact .inl h'
  · exact .inr ⟨g, cap, cur, h1, by omega, h3⟩
/-- Collect of the long expansion's numbers. -/
theorem collectLong_any (s c : Int) (w : World) (hs1 : 1 ≤ s) (hs2 : s ≤ 1000000) (hc1 : 1 ≤ c) (hc2 : c ≤ 1000000) :
    Calls Try.prog 122 #[.func (.func 138) #[] #[.pointer (some ⟨w.heap.size, 0, none⟩), .pointer (some ⟨w.heap.size + 1, 0, none⟩)]] ((w.alloc (.cells #[.int .i64 s] 2)).alloc (.cells #[.int .i64 c] 2)) (RetI w (leN c.toNat s c true)) := by
  refine (callsIn_wide (n := 6)).1 ?_
  have hb : Below w.heap.size w ((w.alloc (.cells #[.int .i64 s] 2)).alloc (.cells #[.int .i64 c] 2)) := by (repeat' (first | (with_reducible exact Below.refl _ _) | (with_reducible refine Below.alloc ?_ ?_ _) | (with_reducible refine Below.setCell ?_ ?_ _) | (with_reducible refine Below.drew ?_) | (with_reducible refine below_drewN ?_ _) | (with_reducible assumption) | (with_reducible refine below_after (by with_reducible assumption) ?_) | go_size))
  refine (collect_in 6 (by omega) 138 _ (enters_of Try.func138 (by kernel_rfl) rfl) (fun ys => ys = leN c.toNat s c true) (fun _ => True) _ (by have := leN_le c.toNat s c true; omega) _ (longExp_stops _ (by omega) _ _ s c hs1 hs2 hc1 hc2 _ (by simp; omega) (by simp) (by go_cell) (by go_cell))).mono ?_
  rintro e W' ⟨v, ss, rfl, rfl, ho, hb2⟩
  exact ⟨v, rfl, own_monoB ho (by simp; omega), hb.trans (hb2.mono (by simp; omega))⟩
end Go.Proofs.Ytoenlpkphekbnaa
