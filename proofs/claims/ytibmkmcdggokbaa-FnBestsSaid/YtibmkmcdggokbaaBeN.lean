/-
  Approaches to a ratio, in the program and in the model; blocks of one number; lists of numbers that grow in a region that draws its order (own work).
-/
import Derived.Test.YtibmkmcdggokbaaBeB
import Derived.Test.YtibmkmcdggokbaaOwn
import Derived.Test.YtibmkmcdggokbaaBlk
import Derived.Test.YtibmkmcdggokbaaPtM
namespace Go.Proofs.Ytibmkmcdggokbaa
open Go.ChangeShapes Go.WideShapes Go.ChangeAt Go.RowKit
set_option linter.unusedVariables false
set_option linter.unusedSimpArgs false
set_option maxRecDepth 100000

def Bk1 (W : World) (g : Nat) (v0 : Int) : Prop := (W.cell? ⟨g, 0, none⟩ = some (.int .i64 v0)) ∧ (W.frozen? ⟨g, 0, none⟩ = false) ∧ g < W.heap.size
theorem Bk1.same {W W' : World} {g : Nat} {v0 : Int} (h : Bk1 W g v0) (he : W'.heap[g]? = W.heap[g]?) : Bk1 W' g v0 := by
  obtain ⟨h0, f0, hg⟩ := h
  exact ⟨(World.cell?_of_block (a := ⟨g, 0, none⟩) he).trans h0, (World.frozen?_of_block (a := ⟨g, 0, none⟩) he).trans f0, by
    rw [Array.getElem?_eq_getElem hg] at he
    exact (Array.getElem?_eq_some_iff.1 he).1⟩
theorem Bk1.below {W W' : World} {g : Nat} {v0 : Int} (h : Bk1 W g v0) (hb : Below W.heap.size W W') : Bk1 W' g v0 := h.same (hb.block g h.2.2)
theorem Bk1.keep {W W' : World} {g B : Nat} {v0 : Int} (h : Bk1 W g v0) (hb : Below B W W') (hg : g < B) : Bk1 W' g v0 := h.same (hb.block g hg)
theorem Bk1.far {W : World} {g : Nat} {v0 : Int} (h : Bk1 W g v0) (p : Addr) (v : Value) (hne : g ≠ p.block) : Bk1 (W.setCell p v) g v0 := h.same (Below.heap_setCell W p v g hne)
theorem bk1_new (w : World) (v0 : Int) (t : TypeId) : Bk1 (w.alloc (.cells #[.int .i64 v0] t)) w.heap.size v0 := by
  refine ⟨?_, ?_, ?_⟩
  all_goals first | (go_cell; done) | (simp; done)
theorem Bk1.grows {w w' : World} {g : Nat} {r : Option Nat} {a : Int} (h : Bk1 w g a) (hg : w.grownBy w' r) (hne : r ≠ some g) : Bk1 w' g a := h.same (hg.block g h.2.2 (fun e => hne e.symm))
theorem Bk3.grows {w w' : World} {g : Nat} {r : Option Nat} {a b c : Int} (h : Bk3 w g a b c) (hg : w.grownBy w' r) (hne : r ≠ some g) : Bk3 w' g a b c := h.same (hg.block g h.2.2 (fun e => hne e.symm))
theorem OwnI.farB {B : Nat} {W : World} {v : Value} {xs : List Int} (h : OwnI B W v xs) (p : Addr) (u : Value) (hne : ∀ k, v.ownBlock = some k → k ≠ p.block) : OwnI B (W.setCell p u) v xs := by
  refine ⟨h.1, ?_⟩
  rcases h.2 with h' | ⟨g, cap, cur, h1, h2, h3, h4⟩
  · exact .inl h'
  · exact .inr ⟨g, cap, cur, h1, h2, by rw [Below.heap_setCell W p u g (hne g (by rw [h1]; rfl))]; exact h3, h4⟩
theorem info_int1 : (Try.prog.info? 2).map (fun i => (i.zero, i.size, i.bytes)) = some (some (.int .i64 0), 1, 8) := by kernel_rfl
theorem wp_append_atI (B : Nat) {W : World} {o : Oper} {a : Act} {K : Act → World → Prop} {Q : Exit → Act → World → Prop} (s x : Operand)
    (ho : o.op = .call { callee := .builtin .append, args := #[s, x], argTypes := #[57, 57] })
    {v : Value} {xs : List Int} {g c : Nat} {y : Int} (hown : OwnI B W v xs) (c0 : W.cell? ⟨g, 0, none⟩ = some (.int .i64 y)) (hb : B ≤ W.heap.size) (hs : a.eval s = v) (hx : a.eval x = .slice (some ⟨g, 0, none⟩) 1 c) (hlen : xs.length + 1 ≤ 4194304)
    (hK : ∀ v' w', OwnI B w' v' (xs ++ [y]) → W.grownBy w' v.ownBlock → (v'.ownBlock = v.ownBlock ∨ v'.ownBlock = some W.heap.size) → K (a.put o.dst v') w') : Oper.wp Try.prog o a W K Q := by
  obtain ⟨ti0, hi, hz0, hz1, hz2⟩ := info_parts info_int1
  obtain ⟨v', w', hr, h2, h3, h4, h5⟩ := run_append_own_at (P := Try.prog) W B 57 o.type 2 ti0 (.int .i64 0) 1 8 Try.underlying57 hi hz0 hz1 hz2 rfl (by decide) v _ _ hown ⟨g, 0, none⟩ 1 c ([y].map (Value.int .i64)) rfl
    (by intro j u hj
        match j, hj with
        | 0, hj => simp at hj; subst hj; simpa [Addr.add] using c0)
    (by intro u hu; simp only [List.mem_map] at hu; obtain ⟨y, _, rfl⟩ := hu; rfl) (by unfold maxLen; omega) (by omega) hb
  unfold Oper.wp execOp
  simp only [ho, resolve, invoke, builtin, Sem.run_bind, Sem.run_pure, Result.andThen_ok, List.map_toArray, List.map_cons, List.map_nil, hs, hx, hr]
  refine hK _ _ ?_ h3 h5
  show w'.ownsRow B 2 1 v' (xs ++ [y]).length ((xs ++ [y]).map (Value.int .i64))
  rw [List.length_append, List.map_append]; exact h2
/-- A list of numbers that grows by one that has just been laid. -/
theorem wpList_app_I (w0 : World) {W : World} {ops : Array Oper} {rest : List Oper} {o : Oper} {a : Act} {Q : Exit → Act → World → Prop} (hgd : o.guard = none) (s x : Operand)
    (ho : o.op = .call { callee := .builtin .append, args := #[s, x], argTypes := #[57, 57] })
    {v : Value} {xs : List Int} {g c : Nat} {y : Int} (hown : OwnI w0.heap.size W v xs) (c0 : W.cell? ⟨g, 0, none⟩ = some (.int .i64 y)) (hb : Below w0.heap.size w0 W) (hs : a.eval s = v) (hx : a.eval x = .slice (some ⟨g, 0, none⟩) 1 c) (hlen : xs.length + 1 ≤ 4194304)
    (hK : ∀ v' w', OwnI w0.heap.size w' v' (xs ++ [y]) → Below w0.heap.size w0 w' → wpList Try.prog ops Q rest (a.put o.dst v') w') : wpList Try.prog ops Q (o :: rest) a W := by
  obtain ⟨i0, hi, hz0, hz1, hz2⟩ := info_parts info_int1
  refine wpList_append_own _ hgd s x 57 ho w0.heap.size 2 i0 (.int .i64 0) 1 8 Try.underlying57 hi hz0 hz1 hz2 rfl (by decide) v _ _ hs hown ⟨g, 0, none⟩ 1 c ([y].map (Value.int .i64)) hx rfl ?_ ?_ ?_ ?_ hb.size ?_
  · intro j u hj
    match j, hj with
    | 0, hj => simp at hj; subst hj; simpa [Addr.add] using c0
  · intro u hu; simp only [List.mem_map] at hu; obtain ⟨y, _, rfl⟩ := hu; rfl
  · unfold maxLen; omega
  · omega
  · intro v' w' h1 h2 _
    refine hK v' w' ?_ (hb.grown h2 hb.size (fun k hk => (hown.lt k hk).1))
    show w'.ownsRow w0.heap.size 2 1 v' (xs ++ [y]).length ((xs ++ [y]).map (Value.int .i64))
    rw [List.length_append, List.map_append]; exact h1
theorem kp_nr {p q k : Int} (h : rtB p q 1 = true) (k1 : 1 ≤ k) (k2 : k ≤ 1000000) : (-1000000000000 ≤ k * p ∧ k * p ≤ 1000000000000) ∧ (-1000001000001 ≤ k * p / q ∧ k * p / q ≤ 1000000000001) ∧ (0 ≤ k * p % q ∧ k * p % q < q) ∧ (1 ≤ q ∧ q ≤ 1000000) := by
  have b := kp_bd h (by omega : -1000000 ≤ k) k2
  have h := rtB_iff.1 h
  refine ⟨b, ?_, ⟨Int.emod_nonneg _ (by omega), Int.emod_lt_of_pos _ (by omega)⟩, h.2⟩
  generalize k * p = x at *
  have e := Int.mul_ediv_add_emod x q
  have m1 := Int.emod_nonneg x (by omega : q ≠ 0)
  have m2 := Int.emod_lt_of_pos x (by omega : 0 < q)
  constructor
  · by_cases hc : -1000001000001 ≤ x / q
    · exact hc
    · exfalso
      have := Int.mul_le_mul (a := 1) (b := -(x / q)) (c := q) (d := -(x / q)) (by omega) (by omega) (by omega) (by omega)
      rw [Int.one_mul, Int.mul_neg] at this
      omega
  · by_cases hc : x / q ≤ 1000000000001
    · exact hc
    · exfalso
      have := Int.mul_le_mul (a := 1) (b := x / q) (c := q) (d := x / q) (by omega) (by omega) (by omega) (by omega)
      rw [Int.one_mul] at this
      omega
def apV (p q k : Int) : Value := .agg #[.int .i64 (nrP (k * p) q), .int .i64 k, .int .i64 (nrM (k * p) q)]
theorem approachTo_any (p q k : Int) (w : World) (h : rtB p q 1 = true) (k1 : 1 ≤ k) (k2 : k ≤ 1000000) :
    Calls Try.prog 38 #[.int .i64 p, .int .i64 q, .int .i64 k] w fun e w' => e = .returned (apV p q k) ∧ Below w.heap.size w w' := by
  obtain ⟨⟨a1, a2⟩, ⟨b1, b2⟩, ⟨c1, c2⟩, d1, d2⟩ := kp_nr h k1 k2
  have HD : Hid (∀ w, Calls Try.prog 50 #[.int .i64 (k * p), .int .i64 q] w fun e w' => e = .returned (.tuple #[.int .i64 (k * p / q), .int .i64 (k * p % q)]) ∧ Below w.heap.size w w') := fun w => divideDown_any _ _ w (by omega) (by omega) (by omega) (by omega)
  unfold apV nrP nrM
  clear h
  obtain ⟨X, hX⟩ : ∃ X, k * p / q = X := ⟨_, rfl⟩
  obtain ⟨R, hR⟩ : ∃ X, k * p % q = X := ⟨_, rfl⟩
  rw [hX, hR] at HD ⊢
  rw [hX] at b1 b2
  rw [hR] at c1 c2
  clear hX hR
  by_cases hc : q - R < R
  · rw [if_pos hc, if_pos hc]
    go_enter Try.func38, Try.ntmps38
    go_wp2_with (first | (go_at_call 50; refine (HD.out _).mono ?_; rintro e wn ⟨rfl, hb⟩; first | (have h2 := after_call2 hb hcl hfr hlt (by ((repeat' (first | (with_reducible exact Below.refl _ _) | (with_reducible refine Below.alloc ?_ ?_ _) | (with_reducible refine Below.setCell ?_ ?_ _) | (with_reducible refine Below.drew ?_) | (with_reducible refine below_drewN ?_ _) | (with_reducible assumption) | (with_reducible refine below_after (by with_reducible assumption) ?_) | go_size)); done)); obtain ⟨hclx, hfrx, hltx, hsz⟩ := after_call hb; (try simp only [World.size_alloc, World.size_setCell, World.size_drew] at hclx hfrx hltx hsz); (try (have hszl := Nat.lt_of_succ_le hsz)); obtain ⟨hcl, hfr, hlt⟩ := h2) | (obtain ⟨hcl, hfr, hlt, hsz⟩ := after_call hb; (try simp only [World.size_alloc, World.size_setCell, World.size_drew] at hcl hfr hlt hsz))))
    refine bodyPost_ret (v := .agg #[.int .i64 (X + 1), .int .i64 k, .int .i64 (q - R)]) (by simp (maxDischargeDepth := 8) [results, Try.results38, go_sem, *]) rfl ?_
    exact ⟨rfl, by (repeat' (first | (with_reducible exact Below.refl _ _) | (with_reducible refine Below.alloc ?_ ?_ _) | (with_reducible refine Below.setCell ?_ ?_ _) | (with_reducible refine Below.drew ?_) | (with_reducible refine below_drewN ?_ _) | (with_reducible assumption) | (with_reducible refine below_after (by with_reducible assumption) ?_) | go_size))⟩
  · rw [if_neg hc, if_neg hc]
    go_enter Try.func38, Try.ntmps38
    go_wp2_with (first | (go_at_call 50; refine (HD.out _).mono ?_; rintro e wn ⟨rfl, hb⟩; first | (have h2 := after_call2 hb hcl hfr hlt (by ((repeat' (first | (with_reducible exact Below.refl _ _) | (with_reducible refine Below.alloc ?_ ?_ _) | (with_reducible refine Below.setCell ?_ ?_ _) | (with_reducible refine Below.drew ?_) | (with_reducible refine below_drewN ?_ _) | (with_reducible assumption) | (with_reducible refine below_after (by with_reducible assumption) ?_) | go_size)); done)); obtain ⟨hclx, hfrx, hltx, hsz⟩ := after_call hb; (try simp only [World.size_alloc, World.size_setCell, World.size_drew] at hclx hfrx hltx hsz); (try (have hszl := Nat.lt_of_succ_le hsz)); obtain ⟨hcl, hfr, hlt⟩ := h2) | (obtain ⟨hcl, hfr, hlt, hsz⟩ := after_call hb; (try simp only [World.size_alloc, World.size_setCell, World.size_drew] at hcl hfr hlt hsz))))
    refine bodyPost_ret (v := .agg #[.int .i64 X, .int .i64 k, .int .i64 R]) (by simp (maxDischargeDepth := 8) [results, Try.results38, go_sem, *]) rfl ?_
    exact ⟨rfl, by (repeat' (first | (with_reducible exact Below.refl _ _) | (with_reducible refine Below.alloc ?_ ?_ _) | (with_reducible refine Below.setCell ?_ ?_ _) | (with_reducible refine Below.drew ?_) | (with_reducible refine below_drewN ?_ _) | (with_reducible assumption) | (with_reducible refine below_after (by with_reducible assumption) ?_) | go_size))⟩
theorem bestAt_any (gp gq : Nat) (p q k : Int) (w : World) (hp : Bk1 w gp p) (hq : Bk1 w gq q) (h : rtB p q 1 = true) (k1 : 1 ≤ k) (k2 : k ≤ 1000000) :
    Calls Try.prog 37 #[.int .i64 k, .pointer (some ⟨gp, 0, none⟩), .pointer (some ⟨gq, 0, none⟩)] w fun e w' => e = .returned (apV p q k) ∧ Below w.heap.size w w' := by
  have HA := Lib.hid (fun w => approachTo_any p q k w h k1 k2)
  obtain ⟨a0, a1, a2⟩ := hp
  obtain ⟨b0, b1, b2⟩ := hq
  have HP0 : Hid (∀ W, Below w.heap.size w W → W.cell? ⟨gp, 0, none⟩ = some (.int .i64 p) ∧ W.cell? ⟨gq, 0, none⟩ = some (.int .i64 q)) := fun W hW => ⟨(hW.cell (p := ⟨gp, 0, none⟩) a2).trans a0, (hW.cell (p := ⟨gq, 0, none⟩) b2).trans b0⟩
  obtain ⟨c0, c1⟩ := HP0.out (w.alloc (.cells #[.int .i64 0, .int .i64 0, .int .i64 0] 54)) ((Below.refl _ _).alloc (Nat.le_refl _) _)
  unfold apV at HA ⊢
  generalize nrP (k * p) q = X at *
  generalize nrM (k * p) q = Y at *
  clear h k1 k2
  go_enter Try.func37, Try.ntmps37
  go_wp2_with (first | (go_at_call 38; refine (HA.out _).mono ?_; rintro e wn ⟨rfl, hb⟩; first | (have h2 := after_call2 hb hcl hfr hlt (by ((repeat' (first | (with_reducible exact Below.refl _ _) | (with_reducible refine Below.alloc ?_ ?_ _) | (with_reducible refine Below.setCell ?_ ?_ _) | (with_reducible refine Below.drew ?_) | (with_reducible refine below_drewN ?_ _) | (with_reducible assumption) | (with_reducible refine below_after (by with_reducible assumption) ?_) | go_size)); done)); obtain ⟨hclx, hfrx, hltx, hsz⟩ := after_call hb; (try simp only [World.size_alloc, World.size_setCell, World.size_drew] at hclx hfrx hltx hsz); (try (have hszl := Nat.lt_of_succ_le hsz)); obtain ⟨hcl, hfr, hlt⟩ := h2) | (obtain ⟨hcl, hfr, hlt, hsz⟩ := after_call hb; (try simp only [World.size_alloc, World.size_setCell, World.size_drew] at hcl hfr hlt hsz))))
  refine bodyPost_ret (v := .agg #[.int .i64 X, .int .i64 k, .int .i64 Y]) (by simp (maxDischargeDepth := 8) [results, Try.results37, go_sem, *]) rfl ?_
  exact ⟨rfl, by (repeat' (first | (with_reducible exact Below.refl _ _) | (with_reducible refine Below.alloc ?_ ?_ _) | (with_reducible refine Below.setCell ?_ ?_ _) | (with_reducible refine Below.drew ?_) | (with_reducible refine below_drewN ?_ _) | (with_reducible assumption) | (with_reducible refine below_after (by with_reducible assumption) ?_) | go_size))⟩
theorem isNearer_any (a b c d e f : Int) (w : World) (hc : 0 ≤ c ∧ c ≤ 1000000) (he : 0 ≤ e ∧ e ≤ 1000000) (hf : 0 ≤ f ∧ f ≤ 1000000) (hb : 0 ≤ b ∧ b ≤ 1000000) :
    Calls Try.prog 51 #[.agg #[.int .i64 a, .int .i64 b, .int .i64 c], .agg #[.int .i64 d, .int .i64 e, .int .i64 f]] w fun ee w' => ee = .returned (.bool (decide (c * e < f * b))) ∧ Below w.heap.size w w' := by
  have m1 := mul_bd (a := c) (b := e) (A := 1000000) (B := 1000000) (by omega) (by omega) (by omega) (by omega)
  have m2 := mul_bd (a := f) (b := b) (A := 1000000) (B := 1000000) (by omega) (by omega) (by omega) (by omega)
  obtain ⟨m3, m4⟩ := m1
  obtain ⟨m5, m6⟩ := m2
  clear hc he hf hb
  go_enter Try.func51, Try.ntmps51
  go_wp2_with fail
  go_ret
  exact ⟨rfl, by (repeat' (first | (with_reducible exact Below.refl _ _) | (with_reducible refine Below.alloc ?_ ?_ _) | (with_reducible refine Below.setCell ?_ ?_ _) | (with_reducible refine Below.drew ?_) | (with_reducible refine below_drewN ?_ _) | (with_reducible assumption) | (with_reducible refine below_after (by with_reducible assumption) ?_) | go_size))⟩
theorem missesLess_any (a b c d e f : Int) (w : World) :
    Calls Try.prog 52 #[.agg #[.int .i64 a, .int .i64 b, .int .i64 c], .agg #[.int .i64 d, .int .i64 e, .int .i64 f]] w fun ee w' => ee = .returned (.bool (decide (c < f))) ∧ Below w.heap.size w w' := by
  go_enter Try.func52, Try.ntmps52
  go_wp2
  go_ret
  exact ⟨rfl, by (repeat' (first | (with_reducible exact Below.refl _ _) | (with_reducible refine Below.alloc ?_ ?_ _) | (with_reducible refine Below.setCell ?_ ?_ _) | (with_reducible refine Below.drew ?_) | (with_reducible refine below_drewN ?_ _) | (with_reducible assumption) | (with_reducible refine below_after (by with_reducible assumption) ?_) | go_size))⟩
theorem kinds_any (w : World) : Calls Try.prog 40 #[] w fun e w' => e = .returned (.agg #[.func (.func 51) #[] #[], .func (.func 52) #[] #[]]) ∧ Below w.heap.size w w' := by
  have hsf : ∀ (fn : Fn) (first cap : Array Value) (a : Addr) (m : Mode) (w : World), (store a (.func fn first cap) m).run Try.prog w = stored Try.prog w a (.func fn first cap) m := fun fn first cap a m w => run_store Try.prog w a _ m rfl
  have hs20 : w.heap.size < w.heap.size + 1 + 1 := (by omega)
  go_enter Try.func40, Try.ntmps40
  go_wp2
  refine bodyPost_ret (v := .agg #[.func (.func 51) #[] #[], .func (.func 52) #[] #[]]) (by simp (maxDischargeDepth := 8) [results, Try.results40, go_sem, *]) rfl ?_
  exact ⟨rfl, by (repeat' (first | (with_reducible exact Below.refl _ _) | (with_reducible refine Below.alloc ?_ ?_ _) | (with_reducible refine Below.setCell ?_ ?_ _) | (with_reducible refine Below.drew ?_) | (with_reducible refine below_drewN ?_ _) | (with_reducible assumption) | (with_reducible refine below_after (by with_reducible assumption) ?_) | go_size))⟩
theorem idx_kind0 (w : World) : (Instr.index 60 (.agg #[.func (.func 51) #[] #[], .func (.func 52) #[] #[]]) (.int .i64 0)).run Try.prog w = .ok (.func (.func 51) #[] #[]) w := by kernel_rfl
theorem idx_kind1 (w : World) : (Instr.index 60 (.agg #[.func (.func 51) #[] #[], .func (.func 52) #[] #[]]) (.int .i64 1)).run Try.prog w = .ok (.func (.func 52) #[] #[]) w := by kernel_rfl
theorem no_next {v v' : Value} {W : World} {G : Nat} (hat : v'.ownBlock = v.ownBlock ∨ v'.ownBlock = some W.heap.size) (hno : ∀ k, v.ownBlock = some k → k ≠ G) (hg : G < W.heap.size) : ∀ k, v'.ownBlock = some k → k ≠ G := by
  intro k hk
  rcases hat with h | h
  · rw [h] at hk; exact hno k hk
  · rw [h] at hk; injection hk with e; omega
theorem l10Near_any (p q k : Int) (w : World) (h : rtB p q 1 = true) (k1 : 1 ≤ k) (k2 : k ≤ 1000000) :
    Calls Try.prog 42 #[.int .i64 (k * p), .int .i64 q] w fun e w' => e = .returned (.tuple #[.int .i64 (nrP (k * p) q), .int .i64 (nrM (k * p) q)]) ∧ Below w.heap.size w w' := by
  obtain ⟨⟨a1, a2⟩, ⟨b1, b2⟩, ⟨c1, c2⟩, d1, d2⟩ := kp_nr h k1 k2
  have HD : Hid (∀ w, Calls Try.prog 53 #[.int .i64 (k * p), .int .i64 q] w fun e w' => e = .returned (.int .i64 (k * p / q)) ∧ w = w') := fun w => l01Floor_big _ _ w (by omega) (by omega) (by omega) (by omega)
  have e := Int.mul_ediv_add_emod (k * p) q
  unfold nrP nrM
  clear h
  generalize hx : k * p = x at *
  obtain ⟨X, hX⟩ : ∃ X, x / q = X := ⟨_, rfl⟩
  obtain ⟨R, hR⟩ : ∃ X, x % q = X := ⟨_, rfl⟩
  rw [hX, hR] at e
  rw [hX] at HD b1 b2
  rw [hR] at c1 c2
  rw [hX, hR]
  have HM : Hid (X * q = q * X) := Int.mul_comm _ _
  have e1 : -2000000000000 ≤ X * q ∧ X * q ≤ 2000000000000 := by rw [HM.out]; omega
  have e2 : x - X * q = R := by rw [HM.out]; omega
  obtain ⟨e3, e4⟩ := e1
  have hw : IntKind.i64.wrap (x - X * q) = R := by rw [e2, IntKind.wrap_i64]; omega
  clear hX hR e hx HM
  by_cases hc : q - R < R
  · rw [if_pos hc, if_pos hc]
    go_enter Try.func42, Try.ntmps42
    go_wp2_with (first | (go_at_call 53; refine (HD.out _).mono ?_; rintro e wn ⟨rfl, rfl⟩))
    go_ret2
    exact ⟨by first | rfl | simp [e2], by (repeat' (first | (with_reducible exact Below.refl _ _) | (with_reducible refine Below.alloc ?_ ?_ _) | (with_reducible refine Below.setCell ?_ ?_ _) | (with_reducible refine Below.drew ?_) | (with_reducible refine below_drewN ?_ _) | (with_reducible assumption) | (with_reducible refine below_after (by with_reducible assumption) ?_) | go_size))⟩
  · rw [if_neg hc, if_neg hc]
    go_enter Try.func42, Try.ntmps42
    go_wp2_with (first | (go_at_call 53; refine (HD.out _).mono ?_; rintro e wn ⟨rfl, rfl⟩))
    go_ret2
    exact ⟨by first | rfl | simp [e2], by (repeat' (first | (with_reducible exact Below.refl _ _) | (with_reducible refine Below.alloc ?_ ?_ _) | (with_reducible refine Below.setCell ?_ ?_ _) | (with_reducible refine Below.drew ?_) | (with_reducible refine below_drewN ?_ _) | (with_reducible assumption) | (with_reducible refine below_after (by with_reducible assumption) ?_) | go_size))⟩
end Go.Proofs.Ytibmkmcdggokbaa
