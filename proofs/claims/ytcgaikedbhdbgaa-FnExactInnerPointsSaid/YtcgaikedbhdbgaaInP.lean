/-
  InnerPoints in the program (own work).
-/
import Derived.Test.YtcgaikedbhdbgaaSid
import Derived.Test.YtcgaikedbhdbgaaOwn
namespace Go.Proofs.Ytcgaikedbhdbgaa
open Go.ChangeShapes Go.WideShapes Go.ChangeAt Go.RowKit
set_option linter.unusedVariables false
set_option maxRecDepth 100000
set_option linter.unusedSimpArgs false
set_option maxRecDepth 100000

/-- A number that a start of a row may have. -/
def Q8 (n : Int) : Prop := -100000000 ≤ n ∧ n ≤ 100000000
theorem Q8.bn {n : Int} (h : Q8 n) : Bn n := by unfold Q8 at h; unfold Bn; omega
theorem Sml.q8 {n : Int} (h : Sml n) : Q8 n := by unfold Sml at h; unfold Q8; omega
theorem Q8.sub {a b : Int} (h : Q8 a) (k : Q8 b) : Bn (a - b) := by unfold Q8 at *; unfold Bn; omega
set_option maxHeartbeats 1600000 in
theorem turnOf_big (a b c d x y : Int) (w : World) (h0 : Q8 a) (h1 : Q8 b) (h2 : Q8 c) (h3 : Q8 d) (h4 : Q8 x) (h5 : Q8 y) : Calls Try.prog 71 #[.agg #[.int .i64 a, .int .i64 b], .agg #[.int .i64 c, .int .i64 d], .agg #[.int .i64 x, .int .i64 y]] w fun e w' => e = .returned (.int .i64 (sd a b c d x y)) ∧ Below w.heap.size w w' := by
  have HS1 : Hid (∀ w, Calls Try.prog 96 #[.agg #[.int .i64 a, .int .i64 b], .agg #[.int .i64 c, .int .i64 d]] w fun e w' => e = .returned (.agg #[.int .i64 (c - a), .int .i64 (d - b)]) ∧ Below w.heap.size w w') := fun w => stepBetween_any a b c d w h0.bn h1.bn h2.bn h3.bn
  have HS2 : Hid (∀ w, Calls Try.prog 96 #[.agg #[.int .i64 a, .int .i64 b], .agg #[.int .i64 x, .int .i64 y]] w fun e w' => e = .returned (.agg #[.int .i64 (x - a), .int .i64 (y - b)]) ∧ Below w.heap.size w w') := fun w => stepBetween_any a b x y w h0.bn h1.bn h4.bn h5.bn
  have HD : Hid (∀ w, Calls Try.prog 81 #[.agg #[.int .i64 (c - a), .int .i64 (d - b)], .agg #[.int .i64 (x - a), .int .i64 (y - b)]] w fun e w' => e = .returned (.int .i64 (sd a b c d x y)) ∧ Below w.heap.size w w') := fun w => determinant_any _ _ _ _ w (h2.sub h0) (h3.sub h1) (h4.sub h0) (h5.sub h1)
  clear h0 h1 h2 h3 h4 h5
  have hs20 : w.heap.size < w.heap.size + 1 + 1 := (by omega); have hs30 : w.heap.size < w.heap.size + 1 + 1 + 1 := (by omega); have hs31 : w.heap.size + 1 < w.heap.size + 1 + 1 + 1 := (by omega); have hs40 : w.heap.size < w.heap.size + 1 + 1 + 1 + 1 := (by omega); have hs41 : w.heap.size + 1 < w.heap.size + 1 + 1 + 1 + 1 := (by omega); have hs42 : w.heap.size + 1 + 1 < w.heap.size + 1 + 1 + 1 + 1 := (by omega)
  go_enter Try.func71, Try.ntmps71
  go_wp2_with fail
  go_region_held3 (fun W => W.cell? ⟨w.heap.size, 0, none⟩ = some (.int .i64 a) ∧ W.cell? ⟨w.heap.size, 1, none⟩ = some (.int .i64 b) ∧ W.cell? ⟨w.heap.size + 1, 0, none⟩ = some (.int .i64 c) ∧ W.cell? ⟨w.heap.size + 1, 1, none⟩ = some (.int .i64 d) ∧ W.cell? ⟨w.heap.size + 1 + 1, 0, none⟩ = some (.int .i64 x) ∧ W.cell? ⟨w.heap.size + 1 + 1, 1, none⟩ = some (.int .i64 y) ∧ w.heap.size < W.heap.size ∧ w.heap.size + 1 < W.heap.size ∧ w.heap.size + 1 + 1 < W.heap.size) (first | (go_keep; done) | ((repeat' apply And.intro) <;> first | (go_keep; done) | (go_cell; done) | (refine (Below.cell (B := w.heap.size + 1 + 1 + 1) ?_ ?_).trans ?_; focus (repeat' (first | (with_reducible refine Below.alloc ?_ ?_ _) | (with_reducible refine Below.setCell ?_ ?_ _) | (with_reducible refine Below.drew ?_) | (with_reducible exact Below.refl _ _) | (first | omega | (simp only [World.size_alloc, World.size_drew, World.size_setCell]; omega) | (simp; omega)))); focus (first | omega | (simp only [World.size_alloc, World.size_drew, World.size_setCell]; omega) | (simp; omega)); first | (go_keep; done) | ((refine (Below.cell (by with_reducible assumption) ?_).trans ?_) <;> first | (go_keep; done) | (first | omega | (simp only [World.size_alloc, World.size_drew, World.size_setCell]; omega) | (simp; omega)))) | ((refine (Below.cell (by with_reducible assumption) ?_).trans ?_) <;> first | (go_keep; done) | (simp only [World.size_alloc, World.size_drew, World.size_setCell]; omega) | omega) | (simp only [World.size_alloc, World.size_drew, World.size_setCell]; omega) | omega)) (first | (go_at_call 96; refine (HS1.out _).mono ?_; rintro e wn ⟨rfl, hb⟩; first | (have h2 := after_call2 hb hcl hfr hlt (by ((repeat' (first | (with_reducible exact Below.refl _ _) | (with_reducible refine Below.alloc ?_ ?_ _) | (with_reducible refine Below.setCell ?_ ?_ _) | (with_reducible refine Below.drew ?_) | (with_reducible refine below_drewN ?_ _) | (with_reducible assumption) | (with_reducible refine below_after (by with_reducible assumption) ?_) | go_size)); done)); obtain ⟨hclx, hfrx, hltx, hsz⟩ := after_call hb; (try simp only [World.size_alloc, World.size_setCell, World.size_drew] at hclx hfrx hltx hsz); (try (have hszl := Nat.lt_of_succ_le hsz)); obtain ⟨hcl, hfr, hlt⟩ := h2) | (obtain ⟨hcl, hfr, hlt, hsz⟩ := after_call hb; (try simp only [World.size_alloc, World.size_setCell, World.size_drew] at hcl hfr hlt hsz))) | (go_at_call 96; refine (HS2.out _).mono ?_; rintro e wn ⟨rfl, hb⟩; first | (have h2 := after_call2 hb hcl hfr hlt (by ((repeat' (first | (with_reducible exact Below.refl _ _) | (with_reducible refine Below.alloc ?_ ?_ _) | (with_reducible refine Below.setCell ?_ ?_ _) | (with_reducible refine Below.drew ?_) | (with_reducible refine below_drewN ?_ _) | (with_reducible assumption) | (with_reducible refine below_after (by with_reducible assumption) ?_) | go_size)); done)); obtain ⟨hclx, hfrx, hltx, hsz⟩ := after_call hb; (try simp only [World.size_alloc, World.size_setCell, World.size_drew] at hclx hfrx hltx hsz); (try (have hszl := Nat.lt_of_succ_le hsz)); obtain ⟨hcl, hfr, hlt⟩ := h2) | (obtain ⟨hcl, hfr, hlt, hsz⟩ := after_call hb; (try simp only [World.size_alloc, World.size_setCell, World.size_drew] at hcl hfr hlt hsz))) | (go_at_call 81; refine (HD.out _).mono ?_; rintro e wn ⟨rfl, hb⟩; first | (have h2 := after_call2 hb hcl hfr hlt (by ((repeat' (first | (with_reducible exact Below.refl _ _) | (with_reducible refine Below.alloc ?_ ?_ _) | (with_reducible refine Below.setCell ?_ ?_ _) | (with_reducible refine Below.drew ?_) | (with_reducible refine below_drewN ?_ _) | (with_reducible assumption) | (with_reducible refine below_after (by with_reducible assumption) ?_) | go_size)); done)); obtain ⟨hclx, hfrx, hltx, hsz⟩ := after_call hb; (try simp only [World.size_alloc, World.size_setCell, World.size_drew] at hclx hfrx hltx hsz); (try (have hszl := Nat.lt_of_succ_le hsz)); obtain ⟨hcl, hfr, hlt⟩ := h2) | (obtain ⟨hcl, hfr, hlt, hsz⟩ := after_call hb; (try simp only [World.size_alloc, World.size_setCell, World.size_drew] at hcl hfr hlt hsz))))
  all_goals
    go_wp2
    go_ret
    exact ⟨rfl, by (repeat' (first | (with_reducible exact Below.refl _ _) | (with_reducible refine Below.alloc ?_ ?_ _) | (with_reducible refine Below.setCell ?_ ?_ _) | (with_reducible refine Below.drew ?_) | (with_reducible refine below_drewN ?_ _) | (with_reducible assumption) | (with_reducible refine below_after (by with_reducible assumption) ?_) | go_size))⟩
theorem run_min3 (P : Program) (w : World) (ts : Array TypeId) (t : TypeId) (x y z : Int) : (Builtin.min_ ts t #[.int .i64 x, .int .i64 y, .int .i64 z]).run P w = .ok (.int .i64 (mn3 x y z)) w := by
  have e1 : ∀ a b : Int, (if b < a then b else a) = min a b := by intro a b; rw [Int.min_def]; split <;> split <;> omega
  simp [Builtin.min_, Builtin.min2, e1, mn3]
theorem run_max3 (P : Program) (w : World) (ts : Array TypeId) (t : TypeId) (x y z : Int) : (Builtin.max_ ts t #[.int .i64 x, .int .i64 y, .int .i64 z]).run P w = .ok (.int .i64 (mx3 x y z)) w := by
  have e1 : ∀ a b : Int, (if b > a then b else a) = max a b := by intro a b; rw [Int.max_def]; split <;> split <;> omega
  simp [Builtin.max_, Builtin.max2, e1, mx3]
/-- A row of the model. -/
def rowY (x0 y0 x1 y1 x2 y2 x : Int) : List Int := filN (inT x0 y0 x1 y1 x2 y2 x) (mn3 y0 y1 y2) (mx3 y0 y1 y2 - mn3 y0 y1 y2 + 1).toNat
theorem mn_bd {a b c : Int} (h0 : Sml a) (h1 : Sml b) (h2 : Sml c) : -1000 ≤ mn3 a b c ∧ mx3 a b c ≤ 1000 ∧ mn3 a b c ≤ mx3 a b c ∧ mn3 a b c ≤ a ∧ mn3 a b c ≤ b ∧ mn3 a b c ≤ c ∧ a ≤ mx3 a b c ∧ b ≤ mx3 a b c ∧ c ≤ mx3 a b c := by
  unfold Sml at *
  unfold mn3 mx3
  omega
theorem rowY_eq {x0 y0 x1 y1 x2 y2 x : Int} {j : Nat} (h0 : Sml x0) (h1 : Sml y0) (h2 : Sml x1) (h3 : Sml y1) (h4 : Sml x2) (h5 : Sml y2) (hin : ∀ i : Nat, i < j → inT x0 y0 x1 y1 x2 y2 x (st3 x0 y0 x1 y1 x2 y2 x + i) = true) (hout : inT x0 y0 x1 y1 x2 y2 x (st3 x0 y0 x1 y1 x2 y2 x + j) = false) : rowY x0 y0 x1 y1 x2 y2 x = iotN (st3 x0 y0 x1 y1 x2 y2 x) j := by
  obtain ⟨m1, m2, m3, m4, m5, m6, m7, m8, m9⟩ := mn_bd h1 h3 h5
  unfold rowY
  obtain ⟨N, hN⟩ : ∃ N : Nat, mx3 y0 y1 y2 - mn3 y0 y1 y2 = (N : Int) := ⟨(mx3 y0 y1 y2 - mn3 y0 y1 y2).toNat, by omega⟩
  have e : (mx3 y0 y1 y2 - mn3 y0 y1 y2 + 1).toNat = N + 1 := by omega
  rw [e]
  exact row_eq m4 m5 m6 (by omega) (by omega) (by omega) m1 hin hout
theorem rowY_len {x0 y0 x1 y1 x2 y2 : Int} (h0 : Sml x0) (h1 : Sml y0) (h2 : Sml x1) (h3 : Sml y1) (h4 : Sml x2) (h5 : Sml y2) (x : Int) : (rowY x0 y0 x1 y1 x2 y2 x).length ≤ 2001 := by
  obtain ⟨m1, m2, m3, _⟩ := mn_bd h1 h3 h5
  have := filN_len (inT x0 y0 x1 y1 x2 y2 x) (mn3 y0 y1 y2) (mx3 y0 y1 y2 - mn3 y0 y1 y2 + 1).toNat
  unfold rowY
  omega
theorem st3_bd {x0 y0 x1 y1 x2 y2 x : Int} (h0 : Sml x0) (h1 : Sml y0) (h2 : Sml x1) (h3 : Sml y1) (h4 : Sml x2) (h5 : Sml y2) (hx : Q4 x) : -1000 ≤ st3 x0 y0 x1 y1 x2 y2 x ∧ st3 x0 y0 x1 y1 x2 y2 x ≤ 10002000 := st_bd (st_bd (st_bd ⟨by omega, by omega⟩ h0 h1 h2 h3 hx) h2 h3 h4 h5 hx) h4 h5 h0 h1 hx
theorem rowP_snoc (x : Int) (s : Int) (j : Nat) : rowP x (iotN s (j + 1)) = rowP x (iotN s j) ++ [(x, s + j)] := by unfold rowP; rw [iotN, List.map_append]; rfl
theorem rowP_len (x : Int) (ys : List Int) : (rowP x ys).length = ys.length := by unfold rowP; rw [List.length_map]
theorem inL_rowY (x0 y0 x1 y1 x2 y2 : Int) : inL x0 y0 x1 y1 x2 y2 = rowsN (rowY x0 y0 x1 y1 x2 y2) (mn3 x0 x1 x2 + 1) (mx3 x0 x1 x2 - mn3 x0 x1 x2 - 1).toNat := rfl
/-- A list of points that grows by one that has just been laid. -/
theorem wpList_app_F1 (w0 : World) {W : World} {ops : Array Oper} {rest : List Oper} {o : Oper} {a : Act} {Q : Exit → Act → World → Prop} (hgd : o.guard = none) (s x : Operand)
    (ho : o.op = .call { callee := .builtin .append, args := #[s, x], argTypes := #[32, 32] })
    {v : Value} {n g c : Nat} {xs : List Int} {a0 a1 : Int} (hown : OwnF w0.heap.size W v n xs) (c0 : W.cell? ⟨g, 0, none⟩ = some (.int .i64 a0)) (c1 : W.cell? ⟨g, 1, none⟩ = some (.int .i64 a1)) (hb : Below w0.heap.size w0 W) (hs : a.eval s = v) (hx : a.eval x = .slice (some ⟨g, 0, none⟩) 1 c) (hlen : n + 1 ≤ 4194304)
    (hK : ∀ v' w', OwnF w0.heap.size w' v' (n + 1) (xs ++ [a0, a1]) → Below w0.heap.size w0 w' → wpList Try.prog ops Q rest (a.put o.dst v') w') : wpList Try.prog ops Q (o :: rest) a W := by
  obtain ⟨i0, hi, hz0, hz1, hz2⟩ := info_parts info_pt
  refine wpList_append_own _ hgd s x 32 ho w0.heap.size 25 i0 (.agg #[.int .i64 0, .int .i64 0]) 2 16 Try.underlying32 hi hz0 hz1 hz2 rfl (by decide) v _ _ hs hown ⟨g, 0, none⟩ 1 c ([a0, a1].map (Value.int .i64)) hx rfl ?_ ?_ ?_ ?_ hb.size ?_
  · intro j u hj
    match j, hj with
    | 0, hj => simp at hj; subst hj; simpa [Addr.add] using c0
    | 1, hj => simp at hj; subst hj; simpa [Addr.add] using c1
  · intro u hu; simp only [List.mem_map] at hu; obtain ⟨y, _, rfl⟩ := hu; rfl
  · unfold maxLen; omega
  · omega
  · intro v' w' h1 h2 _
    refine hK v' w' ?_ (hb.grown h2 hb.size (fun k hk => (hown.lt k hk).1))
    show w'.ownsRow w0.heap.size 25 2 v' (n + 1) ((xs ++ [a0, a1]).map (Value.int .i64))
    rw [List.map_append]; exact h1
set_option maxHeartbeats 8000000 in
theorem pointsInside_any (x0 y0 x1 y1 x2 y2 : Int) (w : World) (h0 : Sml x0) (h1 : Sml y0) (h2 : Sml x1) (h3 : Sml y1) (h4 : Sml x2) (h5 : Sml y2) : Calls Try.prog 72 #[.agg #[.int .i64 x0, .int .i64 y0, .int .i64 x1, .int .i64 y1, .int .i64 x2, .int .i64 y2]] w fun e w' => ∃ v, e = .returned v ∧ OwnF w.heap.size w' v (inL x0 y0 x1 y1 x2 y2).length (flat (inL x0 y0 x1 y1 x2 y2)) ∧ Below w.heap.size w w' := by
  have HB := Lib.hid (And.intro h0 (And.intro h1 (And.intro h2 (And.intro h3 (And.intro h4 h5)))))
  have HRL : Hid (∀ x, (rowY x0 y0 x1 y1 x2 y2 x).length ≤ 2001) := fun x => rowY_len h0 h1 h2 h3 h4 h5 x
  obtain ⟨b1, b2, b3, _⟩ := mn_bd h0 h2 h4
  have hL : inL x0 y0 x1 y1 x2 y2 = rowsN (rowY x0 y0 x1 y1 x2 y2) (mn3 x0 x1 x2 + 1) (mx3 x0 x1 x2 - mn3 x0 x1 x2 - 1).toNat := inL_rowY x0 y0 x1 y1 x2 y2
  obtain ⟨L, hLL⟩ : ∃ L, inL x0 y0 x1 y1 x2 y2 = L := ⟨_, rfl⟩
  rw [hLL] at hL ⊢
  have HL := Lib.hid hL
  have HM := Lib.hid (And.intro b1 (And.intro b2 b3))
  clear hL hLL h0 h1 h2 h3 h4 h5 b1 b2 b3
  have hmn := fun (W : World) (ts : Array TypeId) (t : TypeId) => run_min3 Try.prog W ts t x0 x1 x2
  have hmx := fun (W : World) (ts : Array TypeId) (t : TypeId) => run_max3 Try.prog W ts t x0 x1 x2
  go_enter Try.func72, Try.ntmps72
  go_upto_region 1 with fail
  obtain ⟨wB, hwB⟩ : ∃ wB, wB = w.alloc (.cells #[.int .i64 x0, .int .i64 y0, .int .i64 x1, .int .i64 y1, .int .i64 x2, .int .i64 y2] 27) := ⟨_, rfl⟩
  rw [← hwB]
  have h6 : Bk6 wB w.heap.size x0 y0 x1 y1 x2 y2 := by rw [hwB]; exact bk6_new w x0 y0 x1 y1 x2 y2 _
  have HBW : Hid (Below w.heap.size w wB) := by
    show Below w.heap.size w wB
    rw [hwB]; (repeat' (first | (with_reducible exact Below.refl _ _) | (with_reducible refine Below.alloc ?_ ?_ _) | (with_reducible refine Below.setCell ?_ ?_ _) | (with_reducible refine Below.drew ?_) | (with_reducible refine below_drewN ?_ _) | (with_reducible assumption) | (with_reducible refine below_after (by with_reducible assumption) ?_) | go_size))
  have HX : Hid (∀ W, Below wB.heap.size wB W → Bk6 W w.heap.size x0 y0 x1 y1 x2 y2) := fun W hW => h6.below hW
  clear hwB h6
  go_step3
  go_wp2_with fail
  go_cut [4, 5] (fun v4 v5 wx => v4 = .int .i64 (mn3 x0 x1 x2) ∧ v5 = .int .i64 (mx3 x0 x1 x2) ∧ Below wB.heap.size wB wx)
  case first =>
    refine wp_region_held_drew (S := fun W => Below wB.heap.size wB W) (by kernel_rfl) ?_ (fun hHeld => ?_); focus ((try dsimp only); exact (Below.refl _ _).drew)
    have hHeld : Below wB.heap.size wB _ := hHeld
    obtain ⟨wD, hwD⟩ : ∃ wD, wB.drew = wD := ⟨_, rfl⟩
    rw [hwD] at hHeld ⊢
    clear hwD
    (refine wpAnyH_take (i := 0) (v := ?_) rfl (by kernel_rfl) (by kernel_rfl) (by kernel_rfl) (fun _ _ _ h => h) (Or.inl ⟨rfl, ?_⟩) (by assumption) ?_; rotate_left; focus (intro W hSw; (try dsimp only at hSw); obtain ⟨⟨i0, i1, i2, i3, i4, i5⟩, _, iz⟩ := HX.out _ hSw; go_simp; try (with_reducible rfl))); (try simp only [Act.put, List.getElem_toArray, List.getElem_cons_succ, List.getElem_cons_zero, List.setIfInBounds_toArray, List.set_cons_zero, List.set_cons_succ])
    (refine wpAnyH_take (i := 1) (v := ?_) rfl (by kernel_rfl) (by kernel_rfl) (by kernel_rfl) (fun _ _ _ h => h) (Or.inl ⟨rfl, ?_⟩) (by assumption) ?_; rotate_left; focus (intro W hSw; (try dsimp only at hSw); obtain ⟨⟨i0, i1, i2, i3, i4, i5⟩, _, iz⟩ := HX.out _ hSw; go_simp; try (with_reducible rfl))); (try simp only [Act.put, List.getElem_toArray, List.getElem_cons_succ, List.getElem_cons_zero, List.setIfInBounds_toArray, List.set_cons_zero, List.set_cons_succ])
    (refine wpAnyH_take (i := 2) (v := ?_) rfl (by kernel_rfl) (by kernel_rfl) (by kernel_rfl) (fun _ _ _ h => h) (Or.inl ⟨rfl, ?_⟩) (by assumption) ?_; rotate_left; focus (intro W hSw; (try dsimp only at hSw); obtain ⟨⟨i0, i1, i2, i3, i4, i5⟩, _, iz⟩ := HX.out _ hSw; go_simp; try (with_reducible rfl))); (try simp only [Act.put, List.getElem_toArray, List.getElem_cons_succ, List.getElem_cons_zero, List.setIfInBounds_toArray, List.set_cons_zero, List.set_cons_succ])
    (refine wpAnyH_take (i := 3) (v := ?_) rfl (by kernel_rfl) (by kernel_rfl) (by kernel_rfl) (fun _ _ _ h => h) (Or.inl ⟨rfl, ?_⟩) (by assumption) ?_; rotate_left; focus (intro W hSw; (try dsimp only at hSw); obtain ⟨⟨i0, i1, i2, i3, i4, i5⟩, _, iz⟩ := HX.out _ hSw; go_simp; try (with_reducible rfl))); (try simp only [Act.put, List.getElem_toArray, List.getElem_cons_succ, List.getElem_cons_zero, List.setIfInBounds_toArray, List.set_cons_zero, List.set_cons_succ])
    (refine wpAnyH_take (i := 4) (v := ?_) rfl (by kernel_rfl) (by kernel_rfl) (by kernel_rfl) (fun _ _ _ h => h) (Or.inl ⟨rfl, ?_⟩) (by assumption) ?_; rotate_left; focus (intro W hSw; (try dsimp only at hSw); obtain ⟨⟨i0, i1, i2, i3, i4, i5⟩, _, iz⟩ := HX.out _ hSw; go_simp; try (with_reducible rfl))); (try simp only [Act.put, List.getElem_toArray, List.getElem_cons_succ, List.getElem_cons_zero, List.setIfInBounds_toArray, List.set_cons_zero, List.set_cons_succ])
    (refine wpAnyH_take (i := 5) (v := ?_) rfl (by kernel_rfl) (by kernel_rfl) (by kernel_rfl) (fun _ _ _ h => h) (Or.inl ⟨rfl, ?_⟩) (by assumption) ?_; rotate_left; focus (intro W hSw; (try dsimp only at hSw); obtain ⟨⟨i0, i1, i2, i3, i4, i5⟩, _, iz⟩ := HX.out _ hSw; go_simp; try (with_reducible rfl))); (try simp only [Act.put, List.getElem_toArray, List.getElem_cons_succ, List.getElem_cons_zero, List.setIfInBounds_toArray, List.set_cons_zero, List.set_cons_succ])
    (refine wpAnyH_take (i := 6) (v := ?_) rfl (by kernel_rfl) (by kernel_rfl) (by kernel_rfl) (fun _ _ _ h => h) (Or.inl ⟨rfl, ?_⟩) (by assumption) ?_; rotate_left; focus (intro W hSw; (try dsimp only at hSw); obtain ⟨⟨i0, i1, i2, i3, i4, i5⟩, _, iz⟩ := HX.out _ hSw; go_simp; try (with_reducible rfl))); (try simp only [Act.put, List.getElem_toArray, List.getElem_cons_succ, List.getElem_cons_zero, List.setIfInBounds_toArray, List.set_cons_zero, List.set_cons_succ])
    (refine wpAnyH_take (i := 7) (v := ?_) rfl (by kernel_rfl) (by kernel_rfl) (by kernel_rfl) (fun _ _ _ h => h) (Or.inl ⟨rfl, ?_⟩) (by assumption) ?_; rotate_left; focus (intro W hSw; (try dsimp only at hSw); obtain ⟨⟨i0, i1, i2, i3, i4, i5⟩, _, iz⟩ := HX.out _ hSw; go_simp; try (with_reducible rfl))); (try simp only [Act.put, List.getElem_toArray, List.getElem_cons_succ, List.getElem_cons_zero, List.setIfInBounds_toArray, List.set_cons_zero, List.set_cons_succ])
    (refine wpAnyH_take (i := 8) (v := ?_) rfl (by kernel_rfl) (by kernel_rfl) (by kernel_rfl) (fun _ _ _ h => h) (Or.inl ⟨rfl, ?_⟩) (by assumption) ?_; rotate_left; focus (intro W hSw; (try dsimp only at hSw); obtain ⟨⟨i0, i1, i2, i3, i4, i5⟩, _, iz⟩ := HX.out _ hSw; go_simp; try (with_reducible rfl))); (try simp only [Act.put, List.getElem_toArray, List.getElem_cons_succ, List.getElem_cons_zero, List.setIfInBounds_toArray, List.set_cons_zero, List.set_cons_succ])
    (refine wpAnyH_take (i := 9) (v := ?_) rfl (by kernel_rfl) (by kernel_rfl) (by kernel_rfl) (fun _ _ _ h => h) (Or.inl ⟨rfl, ?_⟩) (by assumption) ?_; rotate_left; focus (intro W hSw; (try dsimp only at hSw); obtain ⟨⟨i0, i1, i2, i3, i4, i5⟩, _, iz⟩ := HX.out _ hSw; go_simp; try (with_reducible rfl))); (try simp only [Act.put, List.getElem_toArray, List.getElem_cons_succ, List.getElem_cons_zero, List.setIfInBounds_toArray, List.set_cons_zero, List.set_cons_succ])
    (refine wpAnyH_take (i := 10) (v := ?_) rfl (by kernel_rfl) (by kernel_rfl) (by kernel_rfl) (fun _ _ _ h => h) (Or.inl ⟨rfl, ?_⟩) (by assumption) ?_; rotate_left; focus (intro W hSw; (try dsimp only at hSw); obtain ⟨⟨i0, i1, i2, i3, i4, i5⟩, _, iz⟩ := HX.out _ hSw; go_simp; try (with_reducible rfl))); (try simp only [Act.put, List.getElem_toArray, List.getElem_cons_succ, List.getElem_cons_zero, List.setIfInBounds_toArray, List.set_cons_zero, List.set_cons_succ])
    (refine wpAnyH_take (i := 11) (v := ?_) rfl (by kernel_rfl) (by kernel_rfl) (by kernel_rfl) (fun _ _ _ h => h) (Or.inl ⟨rfl, ?_⟩) (by assumption) ?_; rotate_left; focus (intro W hSw; (try dsimp only at hSw); obtain ⟨⟨i0, i1, i2, i3, i4, i5⟩, _, iz⟩ := HX.out _ hSw; go_simp; try (with_reducible rfl))); (try simp only [Act.put, List.getElem_toArray, List.getElem_cons_succ, List.getElem_cons_zero, List.setIfInBounds_toArray, List.set_cons_zero, List.set_cons_succ])
    (refine wpAnyH_take (i := 12) (v := ?_) rfl (by kernel_rfl) (by kernel_rfl) (by kernel_rfl) (fun _ _ _ h => h) (Or.inl ⟨rfl, ?_⟩) (by assumption) ?_; rotate_left; focus (intro W hSw; (try dsimp only at hSw); obtain ⟨⟨i0, i1, i2, i3, i4, i5⟩, _, iz⟩ := HX.out _ hSw; go_simp; try (with_reducible rfl))); (try simp only [Act.put, List.getElem_toArray, List.getElem_cons_succ, List.getElem_cons_zero, List.setIfInBounds_toArray, List.set_cons_zero, List.set_cons_succ])
    (refine wpAnyH_take (i := 13) (v := ?_) rfl (by kernel_rfl) (by kernel_rfl) (by kernel_rfl) (fun _ _ _ h => h) (Or.inl ⟨rfl, ?_⟩) (by assumption) ?_; rotate_left; focus (intro W hSw; (try dsimp only at hSw); obtain ⟨⟨i0, i1, i2, i3, i4, i5⟩, _, iz⟩ := HX.out _ hSw; go_simp; try (with_reducible rfl))); (try simp only [Act.put, List.getElem_toArray, List.getElem_cons_succ, List.getElem_cons_zero, List.setIfInBounds_toArray, List.set_cons_zero, List.set_cons_succ])
    (refine wpAnyH_take (i := 14) (v := ?_) rfl (by kernel_rfl) (by kernel_rfl) (by kernel_rfl) (fun _ _ _ h => h) (Or.inl ⟨rfl, ?_⟩) (by assumption) ?_; rotate_left; focus (intro W hSw; (try dsimp only at hSw); obtain ⟨⟨i0, i1, i2, i3, i4, i5⟩, _, iz⟩ := HX.out _ hSw; go_simp; try (with_reducible rfl))); (try simp only [Act.put, List.getElem_toArray, List.getElem_cons_succ, List.getElem_cons_zero, List.setIfInBounds_toArray, List.set_cons_zero, List.set_cons_succ])
    (refine wpAnyH_take (i := 15) (v := ?_) rfl (by kernel_rfl) (by kernel_rfl) (by kernel_rfl) (fun _ _ _ h => h) (Or.inl ⟨rfl, ?_⟩) (by assumption) ?_; rotate_left; focus (intro W hSw; (try dsimp only at hSw); obtain ⟨⟨i0, i1, i2, i3, i4, i5⟩, _, iz⟩ := HX.out _ hSw; go_simp; try (with_reducible rfl))); (try simp only [Act.put, List.getElem_toArray, List.getElem_cons_succ, List.getElem_cons_zero, List.setIfInBounds_toArray, List.set_cons_zero, List.set_cons_succ])
    (refine wpAnyH_take (i := 16) (v := ?_) rfl (by kernel_rfl) (by kernel_rfl) (by kernel_rfl) (fun _ _ _ h => h) (Or.inl ⟨rfl, ?_⟩) (by assumption) ?_; rotate_left; focus (intro W hSw; (try dsimp only at hSw); obtain ⟨⟨i0, i1, i2, i3, i4, i5⟩, _, iz⟩ := HX.out _ hSw; go_simp; try (with_reducible rfl))); (try simp only [Act.put, List.getElem_toArray, List.getElem_cons_succ, List.getElem_cons_zero, List.setIfInBounds_toArray, List.set_cons_zero, List.set_cons_succ])
    (refine wpAnyH_take (i := 17) (v := ?_) rfl (by kernel_rfl) (by kernel_rfl) (by kernel_rfl) (fun _ _ _ h => h) (Or.inl ⟨rfl, ?_⟩) (by assumption) ?_; rotate_left; focus (intro W hSw; (try dsimp only at hSw); obtain ⟨⟨i0, i1, i2, i3, i4, i5⟩, _, iz⟩ := HX.out _ hSw; go_simp; try (with_reducible rfl))); (try simp only [Act.put, List.getElem_toArray, List.getElem_cons_succ, List.getElem_cons_zero, List.setIfInBounds_toArray, List.set_cons_zero, List.set_cons_succ])
    (refine wpAnyH_take (i := 18) (v := ?_) rfl (by kernel_rfl) (by kernel_rfl) (by kernel_rfl) (fun _ _ _ h => h) (Or.inl ⟨rfl, ?_⟩) (by assumption) ?_; rotate_left; focus (intro W hSw; (try dsimp only at hSw); obtain ⟨⟨i0, i1, i2, i3, i4, i5⟩, _, iz⟩ := HX.out _ hSw; go_simp; try (with_reducible rfl))); (try simp only [Act.put, List.getElem_toArray, List.getElem_cons_succ, List.getElem_cons_zero, List.setIfInBounds_toArray, List.set_cons_zero, List.set_cons_succ])
    (refine wpAnyH_take (i := 19) (v := ?_) rfl (by kernel_rfl) (by kernel_rfl) (by kernel_rfl) (fun _ _ _ h => h) (Or.inl ⟨rfl, ?_⟩) (by assumption) ?_; rotate_left; focus (intro W hSw; (try dsimp only at hSw); obtain ⟨⟨i0, i1, i2, i3, i4, i5⟩, _, iz⟩ := HX.out _ hSw; go_simp; try (with_reducible rfl))); (try simp only [Act.put, List.getElem_toArray, List.getElem_cons_succ, List.getElem_cons_zero, List.setIfInBounds_toArray, List.set_cons_zero, List.set_cons_succ])
    (refine wpAnyH_take (i := 20) (v := ?_) rfl (by kernel_rfl) (by kernel_rfl) (by kernel_rfl) (fun _ _ _ h => h) (Or.inl ⟨rfl, ?_⟩) (by assumption) ?_; rotate_left; focus (intro W hSw; (try dsimp only at hSw); obtain ⟨⟨i0, i1, i2, i3, i4, i5⟩, _, iz⟩ := HX.out _ hSw; go_simp; try (with_reducible rfl))); (try simp only [Act.put, List.getElem_toArray, List.getElem_cons_succ, List.getElem_cons_zero, List.setIfInBounds_toArray, List.set_cons_zero, List.set_cons_succ])
    (refine wpAnyH_take (i := 21) (v := ?_) rfl (by kernel_rfl) (by kernel_rfl) (by kernel_rfl) (fun _ _ _ h => h) (Or.inl ⟨rfl, ?_⟩) (by assumption) ?_; rotate_left; focus (intro W hSw; (try dsimp only at hSw); obtain ⟨⟨i0, i1, i2, i3, i4, i5⟩, _, iz⟩ := HX.out _ hSw; go_simp; try (with_reducible rfl))); (try simp only [Act.put, List.getElem_toArray, List.getElem_cons_succ, List.getElem_cons_zero, List.setIfInBounds_toArray, List.set_cons_zero, List.set_cons_succ])
    refine wpAnyH_done (by kernel_rfl) ?_ _
    go_wp2_with fail
    go_meet
    exact ⟨rfl, rfl, hHeld⟩
  case rest =>
    clear hmn hmx
    obtain ⟨rfl, rfl, hb0⟩ := hcut
    obtain ⟨w2, rfl⟩ : ∃ w2, w2 = wc := ⟨_, rfl⟩
    obtain ⟨b1, b2, b3⟩ := HM.out
    have HLL := HL
    obtain ⟨lo, hlo⟩ : ∃ l, mn3 x0 x1 x2 = l := ⟨_, rfl⟩
    obtain ⟨hi, hhi⟩ : ∃ l, mx3 x0 x1 x2 = l := ⟨_, rfl⟩
    rw [hlo] at b1 b3 HLL ⊢
    rw [hhi] at b2 b3 HLL ⊢
    clear hlo hhi
    have hw1 : IntKind.i64.wrap (lo + 1) = lo + 1 := by rw [IntKind.wrap_i64]; omega
    go_wp2_with fail
    go_step3
    go_wp2_with fail
    go_loopw [3, 6] (fun v xv wr => ∃ (k n : Nat) (va : Option Addr) (vc : Nat), (k : Int) ≤ max (hi - lo - 1) 0 ∧ n = (rowsN (rowY x0 y0 x1 y1 x2 y2) (lo + 1) k).length ∧ v = .slice va n vc ∧ xv = .int .i64 (lo + 1 + k) ∧ OwnF wB.heap.size wr (.slice va n vc) n (flat (rowsN (rowY x0 y0 x1 y1 x2 y2) (lo + 1) k)) ∧ Below wB.heap.size wB wr) (fun _ xv _ => (hi - intOf xv).toNat)
    case atStart => exact ⟨0, 0, none, 0, by omega, rfl, rfl, by go_num, World.ownsRow_nil _ _ _ _, hb0⟩
    case round =>
      clear hw1 hb0
      obtain ⟨k, n, va, vc, hk, hn, rfl, rfl, hown, hbel⟩ := hrel
      have HO := Lib.hid hown
      have HN := Lib.hid hn
      clear hown hn
      by_cases hlt : lo + 1 + (k : Int) < hi
      · have hx4 : Q4 (lo + 1 + (k : Int)) := by unfold Q4; omega
        have hrk1 : rowsN (rowY x0 y0 x1 y1 x2 y2) (lo + 1) (k + 1) = (rowsN (rowY x0 y0 x1 y1 x2 y2) (lo + 1) k) ++ rowP (lo + 1 + (k : Int)) (rowY x0 y0 x1 y1 x2 y2 (lo + 1 + (k : Int))) := rfl
        have hwx : IntKind.i64.wrap (lo + 1 + (k : Int) + 1) = lo + 1 + (k : Int) + 1 := by rw [IntKind.wrap_i64]; omega
        have hkx : lo + 1 + ((k + 1 : Nat) : Int) = lo + 1 + (k : Int) + 1 := by omega
        have hkk : ((k + 1 : Nat) : Int) ≤ max (hi - lo - 1) 0 := by omega
        have hkb : k ≤ 2000 := by omega
        obtain ⟨x, hx⟩ : ∃ x, lo + 1 + (k : Int) = x := ⟨_, rfl⟩
        rw [hx] at hlt hx4 hrk1 hwx hkx ⊢
        obtain ⟨q1, q2, q3, q4, q5, q6⟩ := HB.out
        have hst := st3_bd q1 q2 q3 q4 q5 q6 hx4
        have HSR : Hid (∀ w, Calls Try.prog 97 #[.agg #[.int .i64 x0, .int .i64 y0, .int .i64 x1, .int .i64 y1, .int .i64 x2, .int .i64 y2], .int .i64 x] w fun e w' => e = .returned (.int .i64 (st3 x0 y0 x1 y1 x2 y2 x)) ∧ Below w.heap.size w w') := fun w => startOfRow_any x0 y0 x1 y1 x2 y2 x w q1 q2 q3 q4 q5 q6 hx4
        have hrow : ∀ j : Nat, (∀ i : Nat, i < j → inT x0 y0 x1 y1 x2 y2 x (st3 x0 y0 x1 y1 x2 y2 x + i) = true) → inT x0 y0 x1 y1 x2 y2 x (st3 x0 y0 x1 y1 x2 y2 x + j) = false → rowY x0 y0 x1 y1 x2 y2 x = iotN (st3 x0 y0 x1 y1 x2 y2 x) j := fun j a b => rowY_eq q1 q2 q3 q4 q5 q6 a b
        obtain ⟨s, hs⟩ : ∃ s, st3 x0 y0 x1 y1 x2 y2 x = s := ⟨_, rfl⟩
        rw [hs] at hst HSR hrow
        have HRW := Lib.hid hrow
        have HXX := Lib.hid (And.intro hx4 (And.intro hrk1 (And.intro hkx (And.intro hkk hkb))))
        have HST := Lib.hid hst
        have hxb : -4000 ≤ x ∧ x ≤ 4000 := hx4
        clear hx hx4 hrk1 hkx hkk hkb hrow hs hst hk q1 q2 q3 q4 q5 q6
        obtain ⟨⟨i0, i1, i2, i3, i4, i5⟩, _, iz⟩ := HX.out wr hbel
        go_wp2_with fail
        go_at_call 97
        refine (HSR.out _).mono ?_
        rintro e wa ⟨rfl, ba⟩
        clear i0 i1 i2 i3 i4 i5 iz
        have hba : Below wB.heap.size wB wa := below_after ba hbel
        have hO0 : OwnF wB.heap.size wa (.slice va n vc) n (flat ((rowsN (rowY x0 y0 x1 y1 x2 y2) (lo + 1) k) ++ rowP x (iotN s 0))) := by show OwnF _ _ _ _ (flat ((rowsN (rowY x0 y0 x1 y1 x2 y2) (lo + 1) k) ++ [])); rw [List.append_nil]; exact HO.out.below ba
        have HN0 : Hid (n = ((rowsN (rowY x0 y0 x1 y1 x2 y2) (lo + 1) k) ++ rowP x (iotN s 0)).length) := by show n = ((rowsN (rowY x0 y0 x1 y1 x2 y2) (lo + 1) k) ++ []).length; rw [List.append_nil]; exact HN.out
        clear hbel ba
        go_wp2_with fail
        go_loopw [3, 7] (fun v yv wr => ∃ (j n : Nat) (va : Option Addr) (vc : Nat), n = ((rowsN (rowY x0 y0 x1 y1 x2 y2) (lo + 1) k) ++ rowP x (iotN s j)).length ∧ v = .slice va n vc ∧ yv = .int .i64 (s + j) ∧ (∀ i : Nat, i < j → inT x0 y0 x1 y1 x2 y2 x (s + i) = true) ∧ OwnF wB.heap.size wr (.slice va n vc) n (flat ((rowsN (rowY x0 y0 x1 y1 x2 y2) (lo + 1) k) ++ rowP x (iotN s j))) ∧ Below wB.heap.size wB wr) (fun _ yv _ => (1001 - intOf yv).toNat)
        case atStart => exact ⟨0, n, va, vc, HN0.out, rfl, by go_num, fun i hi => absurd hi (Nat.not_lt_zero _), hO0, hba⟩
        case round =>
          clear hO0 HN0 hba
          obtain ⟨j, n, va, vc, hn, rfl, rfl, hin, hown, hbel⟩ := hrel
          have HO := Lib.hid hown
          have HN := Lib.hid hn
          have HIN := Lib.hid hin
          obtain ⟨q1, q2, q3, q4, q5, q6⟩ := HB.out
          have hjb : j = 0 ∨ s + (j : Int) ≤ 1000 := by
            by_cases hj : j = 0
            · exact .inl hj
            · right
              have h1 := hin (j - 1) (by omega)
              obtain ⟨m1, m2, m3, m4, m5, m6, m7, m8, m9⟩ := mn_bd q2 q4 q6
              have h2 := inT_yhi h1 m7 m8 m9
              omega
          have hst := HST.out
          have hy8 : Q8 (s + (j : Int)) := by unfold Q8; omega
          have hjn : j ≤ 2000 := by omega
          have hNB : n ≤ 4100000 := by
            have h1 := rowsN_len (rowY x0 y0 x1 y1 x2 y2) (lo + 1) 2001 HRL.out k
            have h2 : k * 2001 ≤ 2000 * 2001 := Nat.mul_le_mul_right _ HXX.out.2.2.2.2
            rw [hn, List.length_append, rowP_len, iotN_len]
            omega
          have HNB := Lib.hid hNB
          have hinj : ∀ y : Int, inT x0 y0 x1 y1 x2 y2 x y = (decide (0 < sd x0 y0 x1 y1 x y) && decide (0 < sd x1 y1 x2 y2 x y) && decide (0 < sd x2 y2 x0 y0 x y)) := fun y => rfl
          have hyhi : inT x0 y0 x1 y1 x2 y2 x (s + (j : Int)) = true → s + (j : Int) ≤ 999 := by
            intro h1
            obtain ⟨m1, m2, m3, m4, m5, m6, m7, m8, m9⟩ := mn_bd q2 q4 q6
            have h2 := inT_yhi h1 m7 m8 m9
            omega
          have hylo : -1000 ≤ s + (j : Int) := by omega
          have hj1 : s + ((j + 1 : Nat) : Int) = s + (j : Int) + 1 := by omega
          have hRS : rowP x (iotN s (j + 1)) = rowP x (iotN s j) ++ [(x, s + (j : Int))] := rowP_snoc x s j
          have hrw := HRW.out j hin
          obtain ⟨y, hy⟩ : ∃ y, s + (j : Int) = y := ⟨_, rfl⟩
          rw [hy] at hy8 hyhi hylo hj1 hRS hrw ⊢
          obtain ⟨S0, hS0⟩ : ∃ S, sd x0 y0 x1 y1 x y = S := ⟨_, rfl⟩
          obtain ⟨S1, hS1⟩ : ∃ S, sd x1 y1 x2 y2 x y = S := ⟨_, rfl⟩
          obtain ⟨S2, hS2⟩ : ∃ S, sd x2 y2 x0 y0 x y = S := ⟨_, rfl⟩
          have HT0 : Hid (∀ w, Calls Try.prog 71 #[.agg #[.int .i64 x0, .int .i64 y0], .agg #[.int .i64 x1, .int .i64 y1], .agg #[.int .i64 x, .int .i64 y]] w fun e w' => e = .returned (.int .i64 S0) ∧ Below w.heap.size w w') := fun w => by rw [← hS0]; exact turnOf_big _ _ _ _ _ _ w q1.q8 q2.q8 q3.q8 q4.q8 (by have := HXX.out.1; unfold Q4 at this; unfold Q8; omega) hy8
          have HT1 : Hid (∀ w, Calls Try.prog 71 #[.agg #[.int .i64 x1, .int .i64 y1], .agg #[.int .i64 x2, .int .i64 y2], .agg #[.int .i64 x, .int .i64 y]] w fun e w' => e = .returned (.int .i64 S1) ∧ Below w.heap.size w w') := fun w => by rw [← hS1]; exact turnOf_big _ _ _ _ _ _ w q3.q8 q4.q8 q5.q8 q6.q8 (by have := HXX.out.1; unfold Q4 at this; unfold Q8; omega) hy8
          have HT2 : Hid (∀ w, Calls Try.prog 71 #[.agg #[.int .i64 x2, .int .i64 y2], .agg #[.int .i64 x0, .int .i64 y0], .agg #[.int .i64 x, .int .i64 y]] w fun e w' => e = .returned (.int .i64 S2) ∧ Below w.heap.size w w') := fun w => by rw [← hS2]; exact turnOf_big _ _ _ _ _ _ w q5.q8 q6.q8 q1.q8 q2.q8 (by have := HXX.out.1; unfold Q4 at this; unfold Q8; omega) hy8
          have hiy : inT x0 y0 x1 y1 x2 y2 x y = (decide (0 < S0) && decide (0 < S1) && decide (0 < S2)) := by rw [hinj, hS0, hS1, hS2]
          have HIY := Lib.hid hiy
          have HY := Lib.hid (And.intro hyhi (And.intro hylo (And.intro hj1 (And.intro hRS hrw))))
          clear hown hn hin hjb hst hy8 hjn hNB hinj hyhi hylo hj1 hRS hrw hy hS0 hS1 hS2 hiy q1 q2 q3 q4 q5 q6
          go_upto_region 9 with fail
          obtain ⟨g, hg⟩ : ∃ g, wr.heap.size = g := ⟨_, rfl⟩
          obtain ⟨wC, hwC⟩ : ∃ wC, wC = wr.alloc (.cells #[.int .i64 x, .int .i64 y] 25) := ⟨_, rfl⟩
          rw [← hwC, hg]
          have hkg : Bk2 wC g x y := by rw [hwC, ← hg]; exact bk2_new wr x y _
          have hOC := HO.out.below ((Below.refl _ _).alloc (Nat.le_refl _) (.cells #[.int .i64 x, .int .i64 y] 25))
          rw [← hwC] at hOC
          have hbC : Below wB.heap.size wB wC := by rw [hwC]; exact hbel.alloc hbel.size _
          have HC : Hid (∀ W, Below wC.heap.size wC W → Bk6 W w.heap.size x0 y0 x1 y1 x2 y2 ∧ Bk2 W g x y ∧ Below wB.heap.size wB W ∧ OwnF wB.heap.size W (.slice va n vc) n (flat ((rowsN (rowY x0 y0 x1 y1 x2 y2) (lo + 1) k) ++ rowP x (iotN s j)))) := fun W hW => ⟨HX.out _ (below_after hW hbC), hkg.below hW, below_after hW hbC, hOC.below hW⟩
          clear hwC hg hkg hOC hbC hbel
          go_wp2_with fail
          go_loopw [45] (fun iv wr => ∃ i : Nat, i ≤ 3 ∧ iv = .int .i64 i ∧ (0 < i → 0 < S0) ∧ (1 < i → 0 < S1) ∧ (2 < i → 0 < S2) ∧ Below wC.heap.size wC wr) (fun iv _ => 3 - (intOf iv).toNat)
          case atStart => exact ⟨0, by omega, rfl, by omega, by omega, by omega, Below.refl _ _⟩
          case round =>
            obtain ⟨i, hi3, rfl, s0, s1, s2, hbr⟩ := hrel
            have hci : i = 0 ∨ i = 1 ∨ i = 2 ∨ i = 3 := by omega
            have HSS := Lib.hid (And.intro s0 (And.intro s1 s2))
            clear s0 s1 s2
            rcases hci with rfl | rfl | rfl | rfl
            · skip
              have n1 : IntKind.i64.wrap (0 + 1) = 1 := by decide
              have n2 : IntKind.i64.wrap (Int.tmod 1 3) = 1 := by decide
              have n3 : IntKind.i64.wrap 0 = 0 := by decide
              have n4 : IntKind.i64.wrap 1 = 1 := by decide
              have n5 : IntKind.i64.wrap 2 = 2 := by decide
              have n6 : IntKind.i64.wrap 3 = 3 := by decide
              have HBR := Lib.hid hbr
              by_cases hp : 0 < S0
              · have hle : ¬ (S0 ≤ 0) := by omega
                have HP := Lib.hid hp
                clear hp hbr
                go_upto_region 12 with fail
                refine wp_region_held_drew (S := fun W => Below wr.heap.size wr W) (by kernel_rfl) ?_ (fun hHeld => ?_); focus ((try dsimp only); exact (Below.refl _ _).drew)
                have hHeld : Below wr.heap.size wr _ := hHeld
                obtain ⟨wD, hwD⟩ : ∃ wD, wr.drew = wD := ⟨_, rfl⟩
                rw [hwD] at hHeld ⊢
                clear hwD
                (refine wpAnyH_take (i := 0) (v := ?_) rfl (by kernel_rfl) (by kernel_rfl) (by kernel_rfl) (fun _ _ _ h => h) (Or.inl ⟨rfl, ?_⟩) (by assumption) ?_; rotate_left; focus (intro W hSw; (try dsimp only at hSw); obtain ⟨⟨⟨i0, i1, i2, i3, i4, i5⟩, _, iz⟩, ⟨⟨c0, c1⟩, _, cz⟩, _⟩ := HC.out _ (below_after hSw HBR.out); go_simp; try (with_reducible rfl))); (try simp only [Act.put, List.getElem_toArray, List.getElem_cons_succ, List.getElem_cons_zero, List.setIfInBounds_toArray, List.set_cons_zero, List.set_cons_succ])
                (refine wpAnyH_take (i := 1) (v := ?_) rfl (by kernel_rfl) (by kernel_rfl) (by kernel_rfl) (fun _ _ _ h => h) (Or.inl ⟨rfl, ?_⟩) (by assumption) ?_; rotate_left; focus (intro W hSw; (try dsimp only at hSw); obtain ⟨⟨⟨i0, i1, i2, i3, i4, i5⟩, _, iz⟩, ⟨⟨c0, c1⟩, _, cz⟩, _⟩ := HC.out _ (below_after hSw HBR.out); go_simp; try (with_reducible rfl))); (try simp only [Act.put, List.getElem_toArray, List.getElem_cons_succ, List.getElem_cons_zero, List.setIfInBounds_toArray, List.set_cons_zero, List.set_cons_succ])
                (refine wpAnyH_take (i := 2) (v := ?_) rfl (by kernel_rfl) (by kernel_rfl) (by kernel_rfl) (fun _ _ _ h => h) (Or.inl ⟨rfl, ?_⟩) (by assumption) ?_; rotate_left; focus (intro W hSw; (try dsimp only at hSw); obtain ⟨⟨⟨i0, i1, i2, i3, i4, i5⟩, _, iz⟩, ⟨⟨c0, c1⟩, _, cz⟩, _⟩ := HC.out _ (below_after hSw HBR.out); go_simp; try (with_reducible rfl))); (try simp only [Act.put, List.getElem_toArray, List.getElem_cons_succ, List.getElem_cons_zero, List.setIfInBounds_toArray, List.set_cons_zero, List.set_cons_succ])
                (refine wpAnyH_take (i := 3) (v := ?_) rfl (by kernel_rfl) (by kernel_rfl) (by kernel_rfl) (fun _ _ _ h => h) (Or.inl ⟨rfl, ?_⟩) (by assumption) ?_; rotate_left; focus (intro W hSw; (try dsimp only at hSw); obtain ⟨⟨⟨i0, i1, i2, i3, i4, i5⟩, _, iz⟩, ⟨⟨c0, c1⟩, _, cz⟩, _⟩ := HC.out _ (below_after hSw HBR.out); go_simp; try (with_reducible rfl))); (try simp only [Act.put, List.getElem_toArray, List.getElem_cons_succ, List.getElem_cons_zero, List.setIfInBounds_toArray, List.set_cons_zero, List.set_cons_succ])
                (refine wpAnyH_take (i := 4) (v := ?_) rfl (by kernel_rfl) (by kernel_rfl) (by kernel_rfl) (fun _ _ _ h => h) (Or.inl ⟨rfl, ?_⟩) (by assumption) ?_; rotate_left; focus (intro W hSw; (try dsimp only at hSw); obtain ⟨⟨⟨i0, i1, i2, i3, i4, i5⟩, _, iz⟩, ⟨⟨c0, c1⟩, _, cz⟩, _⟩ := HC.out _ (below_after hSw HBR.out); go_simp; try (with_reducible rfl))); (try simp only [Act.put, List.getElem_toArray, List.getElem_cons_succ, List.getElem_cons_zero, List.setIfInBounds_toArray, List.set_cons_zero, List.set_cons_succ])
                (refine wpAnyH_take (i := 5) (v := ?_) rfl (by kernel_rfl) (by kernel_rfl) (by kernel_rfl) (fun _ _ _ h => h) (Or.inl ⟨rfl, ?_⟩) (by assumption) ?_; rotate_left; focus (intro W hSw; (try dsimp only at hSw); obtain ⟨⟨⟨i0, i1, i2, i3, i4, i5⟩, _, iz⟩, ⟨⟨c0, c1⟩, _, cz⟩, _⟩ := HC.out _ (below_after hSw HBR.out); go_simp; try (with_reducible rfl))); (try simp only [Act.put, List.getElem_toArray, List.getElem_cons_succ, List.getElem_cons_zero, List.setIfInBounds_toArray, List.set_cons_zero, List.set_cons_succ])
                (refine wpAnyH_take (i := 6) (v := ?_) rfl (by kernel_rfl) (by kernel_rfl) (by kernel_rfl) (fun _ _ _ h => h) (Or.inl ⟨rfl, ?_⟩) (by assumption) ?_; rotate_left; focus (intro W hSw; (try dsimp only at hSw); obtain ⟨⟨⟨i0, i1, i2, i3, i4, i5⟩, _, iz⟩, ⟨⟨c0, c1⟩, _, cz⟩, _⟩ := HC.out _ (below_after hSw HBR.out); go_simp; try (with_reducible rfl))); (try simp only [Act.put, List.getElem_toArray, List.getElem_cons_succ, List.getElem_cons_zero, List.setIfInBounds_toArray, List.set_cons_zero, List.set_cons_succ])
                (refine wpAnyH_take (i := 7) (v := ?_) rfl (by kernel_rfl) (by kernel_rfl) (by kernel_rfl) (fun _ _ _ h => h) (Or.inl ⟨rfl, ?_⟩) (by assumption) ?_; rotate_left; focus (intro W hSw; (try dsimp only at hSw); obtain ⟨⟨⟨i0, i1, i2, i3, i4, i5⟩, _, iz⟩, ⟨⟨c0, c1⟩, _, cz⟩, _⟩ := HC.out _ (below_after hSw HBR.out); go_simp; try (with_reducible rfl))); (try simp only [Act.put, List.getElem_toArray, List.getElem_cons_succ, List.getElem_cons_zero, List.setIfInBounds_toArray, List.set_cons_zero, List.set_cons_succ])
                (refine wpAnyH_take (i := 8) (v := ?_) rfl (by kernel_rfl) (by kernel_rfl) (by kernel_rfl) (fun _ _ _ h => h) (Or.inl ⟨rfl, ?_⟩) (by assumption) ?_; rotate_left; focus (intro W hSw; (try dsimp only at hSw); obtain ⟨⟨⟨i0, i1, i2, i3, i4, i5⟩, _, iz⟩, ⟨⟨c0, c1⟩, _, cz⟩, _⟩ := HC.out _ (below_after hSw HBR.out); go_simp; try (with_reducible rfl))); (try simp only [Act.put, List.getElem_toArray, List.getElem_cons_succ, List.getElem_cons_zero, List.setIfInBounds_toArray, List.set_cons_zero, List.set_cons_succ])
                refine wpAnyH_ready (rs := [9]) (by kernel_rfl) (by simp) ?_; refine AllReadyH.cons rfl (fun K hK => ?_) AllReadyH.nil
                go_simp; (go_at_call 71; refine (HT0.out _).mono ?_; rintro en yw0 ⟨rfl, hb2⟩); refine hK.out _ _ (below_after hb2 hHeld) (fun hHeld2 => ?_); clear hb2; (clear hHeld; rename _ => hHeld; clear hK K; have hHeld : Below wr.heap.size wr _ := hHeld); (try simp only [Act.put, List.getElem_toArray, List.getElem_cons_succ, List.getElem_cons_zero, List.setIfInBounds_toArray, List.set_cons_zero, List.set_cons_succ])
                (refine wpAnyH_take (i := 10) (v := ?_) rfl (by kernel_rfl) (by kernel_rfl) (by kernel_rfl) (fun _ _ _ h => h) (Or.inl ⟨rfl, ?_⟩) (by assumption) ?_; rotate_left; focus (intro W hSw; (try dsimp only at hSw); obtain ⟨⟨⟨i0, i1, i2, i3, i4, i5⟩, _, iz⟩, ⟨⟨c0, c1⟩, _, cz⟩, _⟩ := HC.out _ (below_after hSw HBR.out); go_simp; try (with_reducible rfl))); (try simp only [Act.put, List.getElem_toArray, List.getElem_cons_succ, List.getElem_cons_zero, List.setIfInBounds_toArray, List.set_cons_zero, List.set_cons_succ])
                refine wpAnyH_done (by kernel_rfl) ?_ _
                have hbz := below_after hHeld HBR.out
                clear hHeld
                go_wp2
                go_roundw
                case rel => exact ⟨1, by omega, by go_num, fun _ => HP.out, by omega, by omega, hbz⟩
                case measure => simp [intOf]
              · have hle : S0 ≤ 0 := by omega
                have HP : Hid (decide (0 < S0) = false) := by show decide (0 < S0) = false; simpa using hp
                clear hp hbr
                go_upto_region 12 with fail
                refine wp_region_held_drew (S := fun W => Below wr.heap.size wr W) (by kernel_rfl) ?_ (fun hHeld => ?_); focus ((try dsimp only); exact (Below.refl _ _).drew)
                have hHeld : Below wr.heap.size wr _ := hHeld
                obtain ⟨wD, hwD⟩ : ∃ wD, wr.drew = wD := ⟨_, rfl⟩
                rw [hwD] at hHeld ⊢
                clear hwD
                (refine wpAnyH_take (i := 0) (v := ?_) rfl (by kernel_rfl) (by kernel_rfl) (by kernel_rfl) (fun _ _ _ h => h) (Or.inl ⟨rfl, ?_⟩) (by assumption) ?_; rotate_left; focus (intro W hSw; (try dsimp only at hSw); obtain ⟨⟨⟨i0, i1, i2, i3, i4, i5⟩, _, iz⟩, ⟨⟨c0, c1⟩, _, cz⟩, _⟩ := HC.out _ (below_after hSw HBR.out); go_simp; try (with_reducible rfl))); (try simp only [Act.put, List.getElem_toArray, List.getElem_cons_succ, List.getElem_cons_zero, List.setIfInBounds_toArray, List.set_cons_zero, List.set_cons_succ])
                (refine wpAnyH_take (i := 1) (v := ?_) rfl (by kernel_rfl) (by kernel_rfl) (by kernel_rfl) (fun _ _ _ h => h) (Or.inl ⟨rfl, ?_⟩) (by assumption) ?_; rotate_left; focus (intro W hSw; (try dsimp only at hSw); obtain ⟨⟨⟨i0, i1, i2, i3, i4, i5⟩, _, iz⟩, ⟨⟨c0, c1⟩, _, cz⟩, _⟩ := HC.out _ (below_after hSw HBR.out); go_simp; try (with_reducible rfl))); (try simp only [Act.put, List.getElem_toArray, List.getElem_cons_succ, List.getElem_cons_zero, List.setIfInBounds_toArray, List.set_cons_zero, List.set_cons_succ])
                (refine wpAnyH_take (i := 2) (v := ?_) rfl (by kernel_rfl) (by kernel_rfl) (by kernel_rfl) (fun _ _ _ h => h) (Or.inl ⟨rfl, ?_⟩) (by assumption) ?_; rotate_left; focus (intro W hSw; (try dsimp only at hSw); obtain ⟨⟨⟨i0, i1, i2, i3, i4, i5⟩, _, iz⟩, ⟨⟨c0, c1⟩, _, cz⟩, _⟩ := HC.out _ (below_after hSw HBR.out); go_simp; try (with_reducible rfl))); (try simp only [Act.put, List.getElem_toArray, List.getElem_cons_succ, List.getElem_cons_zero, List.setIfInBounds_toArray, List.set_cons_zero, List.set_cons_succ])
                (refine wpAnyH_take (i := 3) (v := ?_) rfl (by kernel_rfl) (by kernel_rfl) (by kernel_rfl) (fun _ _ _ h => h) (Or.inl ⟨rfl, ?_⟩) (by assumption) ?_; rotate_left; focus (intro W hSw; (try dsimp only at hSw); obtain ⟨⟨⟨i0, i1, i2, i3, i4, i5⟩, _, iz⟩, ⟨⟨c0, c1⟩, _, cz⟩, _⟩ := HC.out _ (below_after hSw HBR.out); go_simp; try (with_reducible rfl))); (try simp only [Act.put, List.getElem_toArray, List.getElem_cons_succ, List.getElem_cons_zero, List.setIfInBounds_toArray, List.set_cons_zero, List.set_cons_succ])
                (refine wpAnyH_take (i := 4) (v := ?_) rfl (by kernel_rfl) (by kernel_rfl) (by kernel_rfl) (fun _ _ _ h => h) (Or.inl ⟨rfl, ?_⟩) (by assumption) ?_; rotate_left; focus (intro W hSw; (try dsimp only at hSw); obtain ⟨⟨⟨i0, i1, i2, i3, i4, i5⟩, _, iz⟩, ⟨⟨c0, c1⟩, _, cz⟩, _⟩ := HC.out _ (below_after hSw HBR.out); go_simp; try (with_reducible rfl))); (try simp only [Act.put, List.getElem_toArray, List.getElem_cons_succ, List.getElem_cons_zero, List.setIfInBounds_toArray, List.set_cons_zero, List.set_cons_succ])
                (refine wpAnyH_take (i := 5) (v := ?_) rfl (by kernel_rfl) (by kernel_rfl) (by kernel_rfl) (fun _ _ _ h => h) (Or.inl ⟨rfl, ?_⟩) (by assumption) ?_; rotate_left; focus (intro W hSw; (try dsimp only at hSw); obtain ⟨⟨⟨i0, i1, i2, i3, i4, i5⟩, _, iz⟩, ⟨⟨c0, c1⟩, _, cz⟩, _⟩ := HC.out _ (below_after hSw HBR.out); go_simp; try (with_reducible rfl))); (try simp only [Act.put, List.getElem_toArray, List.getElem_cons_succ, List.getElem_cons_zero, List.setIfInBounds_toArray, List.set_cons_zero, List.set_cons_succ])
                (refine wpAnyH_take (i := 6) (v := ?_) rfl (by kernel_rfl) (by kernel_rfl) (by kernel_rfl) (fun _ _ _ h => h) (Or.inl ⟨rfl, ?_⟩) (by assumption) ?_; rotate_left; focus (intro W hSw; (try dsimp only at hSw); obtain ⟨⟨⟨i0, i1, i2, i3, i4, i5⟩, _, iz⟩, ⟨⟨c0, c1⟩, _, cz⟩, _⟩ := HC.out _ (below_after hSw HBR.out); go_simp; try (with_reducible rfl))); (try simp only [Act.put, List.getElem_toArray, List.getElem_cons_succ, List.getElem_cons_zero, List.setIfInBounds_toArray, List.set_cons_zero, List.set_cons_succ])
                (refine wpAnyH_take (i := 7) (v := ?_) rfl (by kernel_rfl) (by kernel_rfl) (by kernel_rfl) (fun _ _ _ h => h) (Or.inl ⟨rfl, ?_⟩) (by assumption) ?_; rotate_left; focus (intro W hSw; (try dsimp only at hSw); obtain ⟨⟨⟨i0, i1, i2, i3, i4, i5⟩, _, iz⟩, ⟨⟨c0, c1⟩, _, cz⟩, _⟩ := HC.out _ (below_after hSw HBR.out); go_simp; try (with_reducible rfl))); (try simp only [Act.put, List.getElem_toArray, List.getElem_cons_succ, List.getElem_cons_zero, List.setIfInBounds_toArray, List.set_cons_zero, List.set_cons_succ])
                (refine wpAnyH_take (i := 8) (v := ?_) rfl (by kernel_rfl) (by kernel_rfl) (by kernel_rfl) (fun _ _ _ h => h) (Or.inl ⟨rfl, ?_⟩) (by assumption) ?_; rotate_left; focus (intro W hSw; (try dsimp only at hSw); obtain ⟨⟨⟨i0, i1, i2, i3, i4, i5⟩, _, iz⟩, ⟨⟨c0, c1⟩, _, cz⟩, _⟩ := HC.out _ (below_after hSw HBR.out); go_simp; try (with_reducible rfl))); (try simp only [Act.put, List.getElem_toArray, List.getElem_cons_succ, List.getElem_cons_zero, List.setIfInBounds_toArray, List.set_cons_zero, List.set_cons_succ])
                refine wpAnyH_ready (rs := [9]) (by kernel_rfl) (by simp) ?_; refine AllReadyH.cons rfl (fun K hK => ?_) AllReadyH.nil
                go_simp; (go_at_call 71; refine (HT0.out _).mono ?_; rintro en yw0 ⟨rfl, hb2⟩); refine hK.out _ _ (below_after hb2 hHeld) (fun hHeld2 => ?_); clear hb2; (clear hHeld; rename _ => hHeld; clear hK K; have hHeld : Below wr.heap.size wr _ := hHeld); (try simp only [Act.put, List.getElem_toArray, List.getElem_cons_succ, List.getElem_cons_zero, List.setIfInBounds_toArray, List.set_cons_zero, List.set_cons_succ])
                (refine wpAnyH_take (i := 10) (v := ?_) rfl (by kernel_rfl) (by kernel_rfl) (by kernel_rfl) (fun _ _ _ h => h) (Or.inl ⟨rfl, ?_⟩) (by assumption) ?_; rotate_left; focus (intro W hSw; (try dsimp only at hSw); obtain ⟨⟨⟨i0, i1, i2, i3, i4, i5⟩, _, iz⟩, ⟨⟨c0, c1⟩, _, cz⟩, _⟩ := HC.out _ (below_after hSw HBR.out); go_simp; try (with_reducible rfl))); (try simp only [Act.put, List.getElem_toArray, List.getElem_cons_succ, List.getElem_cons_zero, List.setIfInBounds_toArray, List.set_cons_zero, List.set_cons_succ])
                refine wpAnyH_done (by kernel_rfl) ?_ _
                have hbz := below_after hHeld HBR.out
                clear hHeld
                have hout : inT x0 y0 x1 y1 x2 y2 x y = false := by rw [HIY.out, HP.out]; simp
                have hrow := HY.out.2.2.2.2 hout
                have hR : rowsN (rowY x0 y0 x1 y1 x2 y2) (lo + 1) (k + 1) = ((rowsN (rowY x0 y0 x1 y1 x2 y2) (lo + 1) k) ++ rowP x (iotN s j)) := by rw [HXX.out.2.1, hrow]
                have HR := Lib.hid hR
                clear hout hrow hR
                go_wp2
                go_roundw
                case rel => exact ⟨k + 1, n, va, vc, HXX.out.2.2.2.1, by rw [HR.out]; exact HN.out, rfl, by rw [HXX.out.2.2.1], by rw [HR.out]; exact (HC.out _ hbz).2.2.2, (HC.out _ hbz).2.2.1⟩
                case measure => simp [intOf]; omega
            · skip
              have n1 : IntKind.i64.wrap (1 + 1) = 2 := by decide
              have n2 : IntKind.i64.wrap (Int.tmod 2 3) = 2 := by decide
              have n3 : IntKind.i64.wrap 0 = 0 := by decide
              have n4 : IntKind.i64.wrap 1 = 1 := by decide
              have n5 : IntKind.i64.wrap 2 = 2 := by decide
              have n6 : IntKind.i64.wrap 3 = 3 := by decide
              have HBR := Lib.hid hbr
              by_cases hp : 0 < S1
              · have hle : ¬ (S1 ≤ 0) := by omega
                have HP := Lib.hid hp
                clear hp hbr
                go_upto_region 12 with fail
                refine wp_region_held_drew (S := fun W => Below wr.heap.size wr W) (by kernel_rfl) ?_ (fun hHeld => ?_); focus ((try dsimp only); exact (Below.refl _ _).drew)
                have hHeld : Below wr.heap.size wr _ := hHeld
                obtain ⟨wD, hwD⟩ : ∃ wD, wr.drew = wD := ⟨_, rfl⟩
                rw [hwD] at hHeld ⊢
                clear hwD
                (refine wpAnyH_take (i := 0) (v := ?_) rfl (by kernel_rfl) (by kernel_rfl) (by kernel_rfl) (fun _ _ _ h => h) (Or.inl ⟨rfl, ?_⟩) (by assumption) ?_; rotate_left; focus (intro W hSw; (try dsimp only at hSw); obtain ⟨⟨⟨i0, i1, i2, i3, i4, i5⟩, _, iz⟩, ⟨⟨c0, c1⟩, _, cz⟩, _⟩ := HC.out _ (below_after hSw HBR.out); go_simp; try (with_reducible rfl))); (try simp only [Act.put, List.getElem_toArray, List.getElem_cons_succ, List.getElem_cons_zero, List.setIfInBounds_toArray, List.set_cons_zero, List.set_cons_succ])
                (refine wpAnyH_take (i := 1) (v := ?_) rfl (by kernel_rfl) (by kernel_rfl) (by kernel_rfl) (fun _ _ _ h => h) (Or.inl ⟨rfl, ?_⟩) (by assumption) ?_; rotate_left; focus (intro W hSw; (try dsimp only at hSw); obtain ⟨⟨⟨i0, i1, i2, i3, i4, i5⟩, _, iz⟩, ⟨⟨c0, c1⟩, _, cz⟩, _⟩ := HC.out _ (below_after hSw HBR.out); go_simp; try (with_reducible rfl))); (try simp only [Act.put, List.getElem_toArray, List.getElem_cons_succ, List.getElem_cons_zero, List.setIfInBounds_toArray, List.set_cons_zero, List.set_cons_succ])
                (refine wpAnyH_take (i := 2) (v := ?_) rfl (by kernel_rfl) (by kernel_rfl) (by kernel_rfl) (fun _ _ _ h => h) (Or.inl ⟨rfl, ?_⟩) (by assumption) ?_; rotate_left; focus (intro W hSw; (try dsimp only at hSw); obtain ⟨⟨⟨i0, i1, i2, i3, i4, i5⟩, _, iz⟩, ⟨⟨c0, c1⟩, _, cz⟩, _⟩ := HC.out _ (below_after hSw HBR.out); go_simp; try (with_reducible rfl))); (try simp only [Act.put, List.getElem_toArray, List.getElem_cons_succ, List.getElem_cons_zero, List.setIfInBounds_toArray, List.set_cons_zero, List.set_cons_succ])
                (refine wpAnyH_take (i := 3) (v := ?_) rfl (by kernel_rfl) (by kernel_rfl) (by kernel_rfl) (fun _ _ _ h => h) (Or.inl ⟨rfl, ?_⟩) (by assumption) ?_; rotate_left; focus (intro W hSw; (try dsimp only at hSw); obtain ⟨⟨⟨i0, i1, i2, i3, i4, i5⟩, _, iz⟩, ⟨⟨c0, c1⟩, _, cz⟩, _⟩ := HC.out _ (below_after hSw HBR.out); go_simp; try (with_reducible rfl))); (try simp only [Act.put, List.getElem_toArray, List.getElem_cons_succ, List.getElem_cons_zero, List.setIfInBounds_toArray, List.set_cons_zero, List.set_cons_succ])
                (refine wpAnyH_take (i := 4) (v := ?_) rfl (by kernel_rfl) (by kernel_rfl) (by kernel_rfl) (fun _ _ _ h => h) (Or.inl ⟨rfl, ?_⟩) (by assumption) ?_; rotate_left; focus (intro W hSw; (try dsimp only at hSw); obtain ⟨⟨⟨i0, i1, i2, i3, i4, i5⟩, _, iz⟩, ⟨⟨c0, c1⟩, _, cz⟩, _⟩ := HC.out _ (below_after hSw HBR.out); go_simp; try (with_reducible rfl))); (try simp only [Act.put, List.getElem_toArray, List.getElem_cons_succ, List.getElem_cons_zero, List.setIfInBounds_toArray, List.set_cons_zero, List.set_cons_succ])
                (refine wpAnyH_take (i := 5) (v := ?_) rfl (by kernel_rfl) (by kernel_rfl) (by kernel_rfl) (fun _ _ _ h => h) (Or.inl ⟨rfl, ?_⟩) (by assumption) ?_; rotate_left; focus (intro W hSw; (try dsimp only at hSw); obtain ⟨⟨⟨i0, i1, i2, i3, i4, i5⟩, _, iz⟩, ⟨⟨c0, c1⟩, _, cz⟩, _⟩ := HC.out _ (below_after hSw HBR.out); go_simp; try (with_reducible rfl))); (try simp only [Act.put, List.getElem_toArray, List.getElem_cons_succ, List.getElem_cons_zero, List.setIfInBounds_toArray, List.set_cons_zero, List.set_cons_succ])
                (refine wpAnyH_take (i := 6) (v := ?_) rfl (by kernel_rfl) (by kernel_rfl) (by kernel_rfl) (fun _ _ _ h => h) (Or.inl ⟨rfl, ?_⟩) (by assumption) ?_; rotate_left; focus (intro W hSw; (try dsimp only at hSw); obtain ⟨⟨⟨i0, i1, i2, i3, i4, i5⟩, _, iz⟩, ⟨⟨c0, c1⟩, _, cz⟩, _⟩ := HC.out _ (below_after hSw HBR.out); go_simp; try (with_reducible rfl))); (try simp only [Act.put, List.getElem_toArray, List.getElem_cons_succ, List.getElem_cons_zero, List.setIfInBounds_toArray, List.set_cons_zero, List.set_cons_succ])
                (refine wpAnyH_take (i := 7) (v := ?_) rfl (by kernel_rfl) (by kernel_rfl) (by kernel_rfl) (fun _ _ _ h => h) (Or.inl ⟨rfl, ?_⟩) (by assumption) ?_; rotate_left; focus (intro W hSw; (try dsimp only at hSw); obtain ⟨⟨⟨i0, i1, i2, i3, i4, i5⟩, _, iz⟩, ⟨⟨c0, c1⟩, _, cz⟩, _⟩ := HC.out _ (below_after hSw HBR.out); go_simp; try (with_reducible rfl))); (try simp only [Act.put, List.getElem_toArray, List.getElem_cons_succ, List.getElem_cons_zero, List.setIfInBounds_toArray, List.set_cons_zero, List.set_cons_succ])
                (refine wpAnyH_take (i := 8) (v := ?_) rfl (by kernel_rfl) (by kernel_rfl) (by kernel_rfl) (fun _ _ _ h => h) (Or.inl ⟨rfl, ?_⟩) (by assumption) ?_; rotate_left; focus (intro W hSw; (try dsimp only at hSw); obtain ⟨⟨⟨i0, i1, i2, i3, i4, i5⟩, _, iz⟩, ⟨⟨c0, c1⟩, _, cz⟩, _⟩ := HC.out _ (below_after hSw HBR.out); go_simp; try (with_reducible rfl))); (try simp only [Act.put, List.getElem_toArray, List.getElem_cons_succ, List.getElem_cons_zero, List.setIfInBounds_toArray, List.set_cons_zero, List.set_cons_succ])
                refine wpAnyH_ready (rs := [9]) (by kernel_rfl) (by simp) ?_; refine AllReadyH.cons rfl (fun K hK => ?_) AllReadyH.nil
                go_simp; (go_at_call 71; refine (HT1.out _).mono ?_; rintro en yw0 ⟨rfl, hb2⟩); refine hK.out _ _ (below_after hb2 hHeld) (fun hHeld2 => ?_); clear hb2; (clear hHeld; rename _ => hHeld; clear hK K; have hHeld : Below wr.heap.size wr _ := hHeld); (try simp only [Act.put, List.getElem_toArray, List.getElem_cons_succ, List.getElem_cons_zero, List.setIfInBounds_toArray, List.set_cons_zero, List.set_cons_succ])
                (refine wpAnyH_take (i := 10) (v := ?_) rfl (by kernel_rfl) (by kernel_rfl) (by kernel_rfl) (fun _ _ _ h => h) (Or.inl ⟨rfl, ?_⟩) (by assumption) ?_; rotate_left; focus (intro W hSw; (try dsimp only at hSw); obtain ⟨⟨⟨i0, i1, i2, i3, i4, i5⟩, _, iz⟩, ⟨⟨c0, c1⟩, _, cz⟩, _⟩ := HC.out _ (below_after hSw HBR.out); go_simp; try (with_reducible rfl))); (try simp only [Act.put, List.getElem_toArray, List.getElem_cons_succ, List.getElem_cons_zero, List.setIfInBounds_toArray, List.set_cons_zero, List.set_cons_succ])
                refine wpAnyH_done (by kernel_rfl) ?_ _
                have hbz := below_after hHeld HBR.out
                clear hHeld
                go_wp2
                go_roundw
                case rel => exact ⟨2, by omega, by go_num, fun _ => HSS.out.1 (by omega), fun _ => HP.out, by omega, hbz⟩
                case measure => simp [intOf]
              · have hle : S1 ≤ 0 := by omega
                have HP : Hid (decide (0 < S1) = false) := by show decide (0 < S1) = false; simpa using hp
                clear hp hbr
                go_upto_region 12 with fail
                refine wp_region_held_drew (S := fun W => Below wr.heap.size wr W) (by kernel_rfl) ?_ (fun hHeld => ?_); focus ((try dsimp only); exact (Below.refl _ _).drew)
                have hHeld : Below wr.heap.size wr _ := hHeld
                obtain ⟨wD, hwD⟩ : ∃ wD, wr.drew = wD := ⟨_, rfl⟩
                rw [hwD] at hHeld ⊢
                clear hwD
                (refine wpAnyH_take (i := 0) (v := ?_) rfl (by kernel_rfl) (by kernel_rfl) (by kernel_rfl) (fun _ _ _ h => h) (Or.inl ⟨rfl, ?_⟩) (by assumption) ?_; rotate_left; focus (intro W hSw; (try dsimp only at hSw); obtain ⟨⟨⟨i0, i1, i2, i3, i4, i5⟩, _, iz⟩, ⟨⟨c0, c1⟩, _, cz⟩, _⟩ := HC.out _ (below_after hSw HBR.out); go_simp; try (with_reducible rfl))); (try simp only [Act.put, List.getElem_toArray, List.getElem_cons_succ, List.getElem_cons_zero, List.setIfInBounds_toArray, List.set_cons_zero, List.set_cons_succ])
                (refine wpAnyH_take (i := 1) (v := ?_) rfl (by kernel_rfl) (by kernel_rfl) (by kernel_rfl) (fun _ _ _ h => h) (Or.inl ⟨rfl, ?_⟩) (by assumption) ?_; rotate_left; focus (intro W hSw; (try dsimp only at hSw); obtain ⟨⟨⟨i0, i1, i2, i3, i4, i5⟩, _, iz⟩, ⟨⟨c0, c1⟩, _, cz⟩, _⟩ := HC.out _ (below_after hSw HBR.out); go_simp; try (with_reducible rfl))); (try simp only [Act.put, List.getElem_toArray, List.getElem_cons_succ, List.getElem_cons_zero, List.setIfInBounds_toArray, List.set_cons_zero, List.set_cons_succ])
                (refine wpAnyH_take (i := 2) (v := ?_) rfl (by kernel_rfl) (by kernel_rfl) (by kernel_rfl) (fun _ _ _ h => h) (Or.inl ⟨rfl, ?_⟩) (by assumption) ?_; rotate_left; focus (intro W hSw; (try dsimp only at hSw); obtain ⟨⟨⟨i0, i1, i2, i3, i4, i5⟩, _, iz⟩, ⟨⟨c0, c1⟩, _, cz⟩, _⟩ := HC.out _ (below_after hSw HBR.out); go_simp; try (with_reducible rfl))); (try simp only [Act.put, List.getElem_toArray, List.getElem_cons_succ, List.getElem_cons_zero, List.setIfInBounds_toArray, List.set_cons_zero, List.set_cons_succ])
                (refine wpAnyH_take (i := 3) (v := ?_) rfl (by kernel_rfl) (by kernel_rfl) (by kernel_rfl) (fun _ _ _ h => h) (Or.inl ⟨rfl, ?_⟩) (by assumption) ?_; rotate_left; focus (intro W hSw; (try dsimp only at hSw); obtain ⟨⟨⟨i0, i1, i2, i3, i4, i5⟩, _, iz⟩, ⟨⟨c0, c1⟩, _, cz⟩, _⟩ := HC.out _ (below_after hSw HBR.out); go_simp; try (with_reducible rfl))); (try simp only [Act.put, List.getElem_toArray, List.getElem_cons_succ, List.getElem_cons_zero, List.setIfInBounds_toArray, List.set_cons_zero, List.set_cons_succ])
                (refine wpAnyH_take (i := 4) (v := ?_) rfl (by kernel_rfl) (by kernel_rfl) (by kernel_rfl) (fun _ _ _ h => h) (Or.inl ⟨rfl, ?_⟩) (by assumption) ?_; rotate_left; focus (intro W hSw; (try dsimp only at hSw); obtain ⟨⟨⟨i0, i1, i2, i3, i4, i5⟩, _, iz⟩, ⟨⟨c0, c1⟩, _, cz⟩, _⟩ := HC.out _ (below_after hSw HBR.out); go_simp; try (with_reducible rfl))); (try simp only [Act.put, List.getElem_toArray, List.getElem_cons_succ, List.getElem_cons_zero, List.setIfInBounds_toArray, List.set_cons_zero, List.set_cons_succ])
                (refine wpAnyH_take (i := 5) (v := ?_) rfl (by kernel_rfl) (by kernel_rfl) (by kernel_rfl) (fun _ _ _ h => h) (Or.inl ⟨rfl, ?_⟩) (by assumption) ?_; rotate_left; focus (intro W hSw; (try dsimp only at hSw); obtain ⟨⟨⟨i0, i1, i2, i3, i4, i5⟩, _, iz⟩, ⟨⟨c0, c1⟩, _, cz⟩, _⟩ := HC.out _ (below_after hSw HBR.out); go_simp; try (with_reducible rfl))); (try simp only [Act.put, List.getElem_toArray, List.getElem_cons_succ, List.getElem_cons_zero, List.setIfInBounds_toArray, List.set_cons_zero, List.set_cons_succ])
                (refine wpAnyH_take (i := 6) (v := ?_) rfl (by kernel_rfl) (by kernel_rfl) (by kernel_rfl) (fun _ _ _ h => h) (Or.inl ⟨rfl, ?_⟩) (by assumption) ?_; rotate_left; focus (intro W hSw; (try dsimp only at hSw); obtain ⟨⟨⟨i0, i1, i2, i3, i4, i5⟩, _, iz⟩, ⟨⟨c0, c1⟩, _, cz⟩, _⟩ := HC.out _ (below_after hSw HBR.out); go_simp; try (with_reducible rfl))); (try simp only [Act.put, List.getElem_toArray, List.getElem_cons_succ, List.getElem_cons_zero, List.setIfInBounds_toArray, List.set_cons_zero, List.set_cons_succ])
                (refine wpAnyH_take (i := 7) (v := ?_) rfl (by kernel_rfl) (by kernel_rfl) (by kernel_rfl) (fun _ _ _ h => h) (Or.inl ⟨rfl, ?_⟩) (by assumption) ?_; rotate_left; focus (intro W hSw; (try dsimp only at hSw); obtain ⟨⟨⟨i0, i1, i2, i3, i4, i5⟩, _, iz⟩, ⟨⟨c0, c1⟩, _, cz⟩, _⟩ := HC.out _ (below_after hSw HBR.out); go_simp; try (with_reducible rfl))); (try simp only [Act.put, List.getElem_toArray, List.getElem_cons_succ, List.getElem_cons_zero, List.setIfInBounds_toArray, List.set_cons_zero, List.set_cons_succ])
                (refine wpAnyH_take (i := 8) (v := ?_) rfl (by kernel_rfl) (by kernel_rfl) (by kernel_rfl) (fun _ _ _ h => h) (Or.inl ⟨rfl, ?_⟩) (by assumption) ?_; rotate_left; focus (intro W hSw; (try dsimp only at hSw); obtain ⟨⟨⟨i0, i1, i2, i3, i4, i5⟩, _, iz⟩, ⟨⟨c0, c1⟩, _, cz⟩, _⟩ := HC.out _ (below_after hSw HBR.out); go_simp; try (with_reducible rfl))); (try simp only [Act.put, List.getElem_toArray, List.getElem_cons_succ, List.getElem_cons_zero, List.setIfInBounds_toArray, List.set_cons_zero, List.set_cons_succ])
                refine wpAnyH_ready (rs := [9]) (by kernel_rfl) (by simp) ?_; refine AllReadyH.cons rfl (fun K hK => ?_) AllReadyH.nil
                go_simp; (go_at_call 71; refine (HT1.out _).mono ?_; rintro en yw0 ⟨rfl, hb2⟩); refine hK.out _ _ (below_after hb2 hHeld) (fun hHeld2 => ?_); clear hb2; (clear hHeld; rename _ => hHeld; clear hK K; have hHeld : Below wr.heap.size wr _ := hHeld); (try simp only [Act.put, List.getElem_toArray, List.getElem_cons_succ, List.getElem_cons_zero, List.setIfInBounds_toArray, List.set_cons_zero, List.set_cons_succ])
                (refine wpAnyH_take (i := 10) (v := ?_) rfl (by kernel_rfl) (by kernel_rfl) (by kernel_rfl) (fun _ _ _ h => h) (Or.inl ⟨rfl, ?_⟩) (by assumption) ?_; rotate_left; focus (intro W hSw; (try dsimp only at hSw); obtain ⟨⟨⟨i0, i1, i2, i3, i4, i5⟩, _, iz⟩, ⟨⟨c0, c1⟩, _, cz⟩, _⟩ := HC.out _ (below_after hSw HBR.out); go_simp; try (with_reducible rfl))); (try simp only [Act.put, List.getElem_toArray, List.getElem_cons_succ, List.getElem_cons_zero, List.setIfInBounds_toArray, List.set_cons_zero, List.set_cons_succ])
                refine wpAnyH_done (by kernel_rfl) ?_ _
                have hbz := below_after hHeld HBR.out
                clear hHeld
                have hout : inT x0 y0 x1 y1 x2 y2 x y = false := by rw [HIY.out, HP.out]; simp
                have hrow := HY.out.2.2.2.2 hout
                have hR : rowsN (rowY x0 y0 x1 y1 x2 y2) (lo + 1) (k + 1) = ((rowsN (rowY x0 y0 x1 y1 x2 y2) (lo + 1) k) ++ rowP x (iotN s j)) := by rw [HXX.out.2.1, hrow]
                have HR := Lib.hid hR
                clear hout hrow hR
                go_wp2
                go_roundw
                case rel => exact ⟨k + 1, n, va, vc, HXX.out.2.2.2.1, by rw [HR.out]; exact HN.out, rfl, by rw [HXX.out.2.2.1], by rw [HR.out]; exact (HC.out _ hbz).2.2.2, (HC.out _ hbz).2.2.1⟩
                case measure => simp [intOf]; omega
            · skip
              have n1 : IntKind.i64.wrap (2 + 1) = 3 := by decide
              have n2 : IntKind.i64.wrap (Int.tmod 3 3) = 0 := by decide
              have n3 : IntKind.i64.wrap 0 = 0 := by decide
              have n4 : IntKind.i64.wrap 1 = 1 := by decide
              have n5 : IntKind.i64.wrap 2 = 2 := by decide
              have n6 : IntKind.i64.wrap 3 = 3 := by decide
              have HBR := Lib.hid hbr
              by_cases hp : 0 < S2
              · have hle : ¬ (S2 ≤ 0) := by omega
                have HP := Lib.hid hp
                clear hp hbr
                go_upto_region 12 with fail
                refine wp_region_held_drew (S := fun W => Below wr.heap.size wr W) (by kernel_rfl) ?_ (fun hHeld => ?_); focus ((try dsimp only); exact (Below.refl _ _).drew)
                have hHeld : Below wr.heap.size wr _ := hHeld
                obtain ⟨wD, hwD⟩ : ∃ wD, wr.drew = wD := ⟨_, rfl⟩
                rw [hwD] at hHeld ⊢
                clear hwD
                (refine wpAnyH_take (i := 0) (v := ?_) rfl (by kernel_rfl) (by kernel_rfl) (by kernel_rfl) (fun _ _ _ h => h) (Or.inl ⟨rfl, ?_⟩) (by assumption) ?_; rotate_left; focus (intro W hSw; (try dsimp only at hSw); obtain ⟨⟨⟨i0, i1, i2, i3, i4, i5⟩, _, iz⟩, ⟨⟨c0, c1⟩, _, cz⟩, _⟩ := HC.out _ (below_after hSw HBR.out); go_simp; try (with_reducible rfl))); (try simp only [Act.put, List.getElem_toArray, List.getElem_cons_succ, List.getElem_cons_zero, List.setIfInBounds_toArray, List.set_cons_zero, List.set_cons_succ])
                (refine wpAnyH_take (i := 1) (v := ?_) rfl (by kernel_rfl) (by kernel_rfl) (by kernel_rfl) (fun _ _ _ h => h) (Or.inl ⟨rfl, ?_⟩) (by assumption) ?_; rotate_left; focus (intro W hSw; (try dsimp only at hSw); obtain ⟨⟨⟨i0, i1, i2, i3, i4, i5⟩, _, iz⟩, ⟨⟨c0, c1⟩, _, cz⟩, _⟩ := HC.out _ (below_after hSw HBR.out); go_simp; try (with_reducible rfl))); (try simp only [Act.put, List.getElem_toArray, List.getElem_cons_succ, List.getElem_cons_zero, List.setIfInBounds_toArray, List.set_cons_zero, List.set_cons_succ])
                (refine wpAnyH_take (i := 2) (v := ?_) rfl (by kernel_rfl) (by kernel_rfl) (by kernel_rfl) (fun _ _ _ h => h) (Or.inl ⟨rfl, ?_⟩) (by assumption) ?_; rotate_left; focus (intro W hSw; (try dsimp only at hSw); obtain ⟨⟨⟨i0, i1, i2, i3, i4, i5⟩, _, iz⟩, ⟨⟨c0, c1⟩, _, cz⟩, _⟩ := HC.out _ (below_after hSw HBR.out); go_simp; try (with_reducible rfl))); (try simp only [Act.put, List.getElem_toArray, List.getElem_cons_succ, List.getElem_cons_zero, List.setIfInBounds_toArray, List.set_cons_zero, List.set_cons_succ])
                (refine wpAnyH_take (i := 3) (v := ?_) rfl (by kernel_rfl) (by kernel_rfl) (by kernel_rfl) (fun _ _ _ h => h) (Or.inl ⟨rfl, ?_⟩) (by assumption) ?_; rotate_left; focus (intro W hSw; (try dsimp only at hSw); obtain ⟨⟨⟨i0, i1, i2, i3, i4, i5⟩, _, iz⟩, ⟨⟨c0, c1⟩, _, cz⟩, _⟩ := HC.out _ (below_after hSw HBR.out); go_simp; try (with_reducible rfl))); (try simp only [Act.put, List.getElem_toArray, List.getElem_cons_succ, List.getElem_cons_zero, List.setIfInBounds_toArray, List.set_cons_zero, List.set_cons_succ])
                (refine wpAnyH_take (i := 4) (v := ?_) rfl (by kernel_rfl) (by kernel_rfl) (by kernel_rfl) (fun _ _ _ h => h) (Or.inl ⟨rfl, ?_⟩) (by assumption) ?_; rotate_left; focus (intro W hSw; (try dsimp only at hSw); obtain ⟨⟨⟨i0, i1, i2, i3, i4, i5⟩, _, iz⟩, ⟨⟨c0, c1⟩, _, cz⟩, _⟩ := HC.out _ (below_after hSw HBR.out); go_simp; try (with_reducible rfl))); (try simp only [Act.put, List.getElem_toArray, List.getElem_cons_succ, List.getElem_cons_zero, List.setIfInBounds_toArray, List.set_cons_zero, List.set_cons_succ])
                (refine wpAnyH_take (i := 5) (v := ?_) rfl (by kernel_rfl) (by kernel_rfl) (by kernel_rfl) (fun _ _ _ h => h) (Or.inl ⟨rfl, ?_⟩) (by assumption) ?_; rotate_left; focus (intro W hSw; (try dsimp only at hSw); obtain ⟨⟨⟨i0, i1, i2, i3, i4, i5⟩, _, iz⟩, ⟨⟨c0, c1⟩, _, cz⟩, _⟩ := HC.out _ (below_after hSw HBR.out); go_simp; try (with_reducible rfl))); (try simp only [Act.put, List.getElem_toArray, List.getElem_cons_succ, List.getElem_cons_zero, List.setIfInBounds_toArray, List.set_cons_zero, List.set_cons_succ])
                (refine wpAnyH_take (i := 6) (v := ?_) rfl (by kernel_rfl) (by kernel_rfl) (by kernel_rfl) (fun _ _ _ h => h) (Or.inl ⟨rfl, ?_⟩) (by assumption) ?_; rotate_left; focus (intro W hSw; (try dsimp only at hSw); obtain ⟨⟨⟨i0, i1, i2, i3, i4, i5⟩, _, iz⟩, ⟨⟨c0, c1⟩, _, cz⟩, _⟩ := HC.out _ (below_after hSw HBR.out); go_simp; try (with_reducible rfl))); (try simp only [Act.put, List.getElem_toArray, List.getElem_cons_succ, List.getElem_cons_zero, List.setIfInBounds_toArray, List.set_cons_zero, List.set_cons_succ])
                (refine wpAnyH_take (i := 7) (v := ?_) rfl (by kernel_rfl) (by kernel_rfl) (by kernel_rfl) (fun _ _ _ h => h) (Or.inl ⟨rfl, ?_⟩) (by assumption) ?_; rotate_left; focus (intro W hSw; (try dsimp only at hSw); obtain ⟨⟨⟨i0, i1, i2, i3, i4, i5⟩, _, iz⟩, ⟨⟨c0, c1⟩, _, cz⟩, _⟩ := HC.out _ (below_after hSw HBR.out); go_simp; try (with_reducible rfl))); (try simp only [Act.put, List.getElem_toArray, List.getElem_cons_succ, List.getElem_cons_zero, List.setIfInBounds_toArray, List.set_cons_zero, List.set_cons_succ])
                (refine wpAnyH_take (i := 8) (v := ?_) rfl (by kernel_rfl) (by kernel_rfl) (by kernel_rfl) (fun _ _ _ h => h) (Or.inl ⟨rfl, ?_⟩) (by assumption) ?_; rotate_left; focus (intro W hSw; (try dsimp only at hSw); obtain ⟨⟨⟨i0, i1, i2, i3, i4, i5⟩, _, iz⟩, ⟨⟨c0, c1⟩, _, cz⟩, _⟩ := HC.out _ (below_after hSw HBR.out); go_simp; try (with_reducible rfl))); (try simp only [Act.put, List.getElem_toArray, List.getElem_cons_succ, List.getElem_cons_zero, List.setIfInBounds_toArray, List.set_cons_zero, List.set_cons_succ])
                refine wpAnyH_ready (rs := [9]) (by kernel_rfl) (by simp) ?_; refine AllReadyH.cons rfl (fun K hK => ?_) AllReadyH.nil
                go_simp; (go_at_call 71; refine (HT2.out _).mono ?_; rintro en yw0 ⟨rfl, hb2⟩); refine hK.out _ _ (below_after hb2 hHeld) (fun hHeld2 => ?_); clear hb2; (clear hHeld; rename _ => hHeld; clear hK K; have hHeld : Below wr.heap.size wr _ := hHeld); (try simp only [Act.put, List.getElem_toArray, List.getElem_cons_succ, List.getElem_cons_zero, List.setIfInBounds_toArray, List.set_cons_zero, List.set_cons_succ])
                (refine wpAnyH_take (i := 10) (v := ?_) rfl (by kernel_rfl) (by kernel_rfl) (by kernel_rfl) (fun _ _ _ h => h) (Or.inl ⟨rfl, ?_⟩) (by assumption) ?_; rotate_left; focus (intro W hSw; (try dsimp only at hSw); obtain ⟨⟨⟨i0, i1, i2, i3, i4, i5⟩, _, iz⟩, ⟨⟨c0, c1⟩, _, cz⟩, _⟩ := HC.out _ (below_after hSw HBR.out); go_simp; try (with_reducible rfl))); (try simp only [Act.put, List.getElem_toArray, List.getElem_cons_succ, List.getElem_cons_zero, List.setIfInBounds_toArray, List.set_cons_zero, List.set_cons_succ])
                refine wpAnyH_done (by kernel_rfl) ?_ _
                have hbz := below_after hHeld HBR.out
                clear hHeld
                go_wp2
                go_roundw
                case rel => exact ⟨3, by omega, by go_num, fun _ => HSS.out.1 (by omega), fun _ => HSS.out.2.1 (by omega), fun _ => HP.out, hbz⟩
                case measure => simp [intOf]
              · have hle : S2 ≤ 0 := by omega
                have HP : Hid (decide (0 < S2) = false) := by show decide (0 < S2) = false; simpa using hp
                clear hp hbr
                go_upto_region 12 with fail
                refine wp_region_held_drew (S := fun W => Below wr.heap.size wr W) (by kernel_rfl) ?_ (fun hHeld => ?_); focus ((try dsimp only); exact (Below.refl _ _).drew)
                have hHeld : Below wr.heap.size wr _ := hHeld
                obtain ⟨wD, hwD⟩ : ∃ wD, wr.drew = wD := ⟨_, rfl⟩
                rw [hwD] at hHeld ⊢
                clear hwD
                (refine wpAnyH_take (i := 0) (v := ?_) rfl (by kernel_rfl) (by kernel_rfl) (by kernel_rfl) (fun _ _ _ h => h) (Or.inl ⟨rfl, ?_⟩) (by assumption) ?_; rotate_left; focus (intro W hSw; (try dsimp only at hSw); obtain ⟨⟨⟨i0, i1, i2, i3, i4, i5⟩, _, iz⟩, ⟨⟨c0, c1⟩, _, cz⟩, _⟩ := HC.out _ (below_after hSw HBR.out); go_simp; try (with_reducible rfl))); (try simp only [Act.put, List.getElem_toArray, List.getElem_cons_succ, List.getElem_cons_zero, List.setIfInBounds_toArray, List.set_cons_zero, List.set_cons_succ])
                (refine wpAnyH_take (i := 1) (v := ?_) rfl (by kernel_rfl) (by kernel_rfl) (by kernel_rfl) (fun _ _ _ h => h) (Or.inl ⟨rfl, ?_⟩) (by assumption) ?_; rotate_left; focus (intro W hSw; (try dsimp only at hSw); obtain ⟨⟨⟨i0, i1, i2, i3, i4, i5⟩, _, iz⟩, ⟨⟨c0, c1⟩, _, cz⟩, _⟩ := HC.out _ (below_after hSw HBR.out); go_simp; try (with_reducible rfl))); (try simp only [Act.put, List.getElem_toArray, List.getElem_cons_succ, List.getElem_cons_zero, List.setIfInBounds_toArray, List.set_cons_zero, List.set_cons_succ])
                (refine wpAnyH_take (i := 2) (v := ?_) rfl (by kernel_rfl) (by kernel_rfl) (by kernel_rfl) (fun _ _ _ h => h) (Or.inl ⟨rfl, ?_⟩) (by assumption) ?_; rotate_left; focus (intro W hSw; (try dsimp only at hSw); obtain ⟨⟨⟨i0, i1, i2, i3, i4, i5⟩, _, iz⟩, ⟨⟨c0, c1⟩, _, cz⟩, _⟩ := HC.out _ (below_after hSw HBR.out); go_simp; try (with_reducible rfl))); (try simp only [Act.put, List.getElem_toArray, List.getElem_cons_succ, List.getElem_cons_zero, List.setIfInBounds_toArray, List.set_cons_zero, List.set_cons_succ])
                (refine wpAnyH_take (i := 3) (v := ?_) rfl (by kernel_rfl) (by kernel_rfl) (by kernel_rfl) (fun _ _ _ h => h) (Or.inl ⟨rfl, ?_⟩) (by assumption) ?_; rotate_left; focus (intro W hSw; (try dsimp only at hSw); obtain ⟨⟨⟨i0, i1, i2, i3, i4, i5⟩, _, iz⟩, ⟨⟨c0, c1⟩, _, cz⟩, _⟩ := HC.out _ (below_after hSw HBR.out); go_simp; try (with_reducible rfl))); (try simp only [Act.put, List.getElem_toArray, List.getElem_cons_succ, List.getElem_cons_zero, List.setIfInBounds_toArray, List.set_cons_zero, List.set_cons_succ])
                (refine wpAnyH_take (i := 4) (v := ?_) rfl (by kernel_rfl) (by kernel_rfl) (by kernel_rfl) (fun _ _ _ h => h) (Or.inl ⟨rfl, ?_⟩) (by assumption) ?_; rotate_left; focus (intro W hSw; (try dsimp only at hSw); obtain ⟨⟨⟨i0, i1, i2, i3, i4, i5⟩, _, iz⟩, ⟨⟨c0, c1⟩, _, cz⟩, _⟩ := HC.out _ (below_after hSw HBR.out); go_simp; try (with_reducible rfl))); (try simp only [Act.put, List.getElem_toArray, List.getElem_cons_succ, List.getElem_cons_zero, List.setIfInBounds_toArray, List.set_cons_zero, List.set_cons_succ])
                (refine wpAnyH_take (i := 5) (v := ?_) rfl (by kernel_rfl) (by kernel_rfl) (by kernel_rfl) (fun _ _ _ h => h) (Or.inl ⟨rfl, ?_⟩) (by assumption) ?_; rotate_left; focus (intro W hSw; (try dsimp only at hSw); obtain ⟨⟨⟨i0, i1, i2, i3, i4, i5⟩, _, iz⟩, ⟨⟨c0, c1⟩, _, cz⟩, _⟩ := HC.out _ (below_after hSw HBR.out); go_simp; try (with_reducible rfl))); (try simp only [Act.put, List.getElem_toArray, List.getElem_cons_succ, List.getElem_cons_zero, List.setIfInBounds_toArray, List.set_cons_zero, List.set_cons_succ])
                (refine wpAnyH_take (i := 6) (v := ?_) rfl (by kernel_rfl) (by kernel_rfl) (by kernel_rfl) (fun _ _ _ h => h) (Or.inl ⟨rfl, ?_⟩) (by assumption) ?_; rotate_left; focus (intro W hSw; (try dsimp only at hSw); obtain ⟨⟨⟨i0, i1, i2, i3, i4, i5⟩, _, iz⟩, ⟨⟨c0, c1⟩, _, cz⟩, _⟩ := HC.out _ (below_after hSw HBR.out); go_simp; try (with_reducible rfl))); (try simp only [Act.put, List.getElem_toArray, List.getElem_cons_succ, List.getElem_cons_zero, List.setIfInBounds_toArray, List.set_cons_zero, List.set_cons_succ])
                (refine wpAnyH_take (i := 7) (v := ?_) rfl (by kernel_rfl) (by kernel_rfl) (by kernel_rfl) (fun _ _ _ h => h) (Or.inl ⟨rfl, ?_⟩) (by assumption) ?_; rotate_left; focus (intro W hSw; (try dsimp only at hSw); obtain ⟨⟨⟨i0, i1, i2, i3, i4, i5⟩, _, iz⟩, ⟨⟨c0, c1⟩, _, cz⟩, _⟩ := HC.out _ (below_after hSw HBR.out); go_simp; try (with_reducible rfl))); (try simp only [Act.put, List.getElem_toArray, List.getElem_cons_succ, List.getElem_cons_zero, List.setIfInBounds_toArray, List.set_cons_zero, List.set_cons_succ])
                (refine wpAnyH_take (i := 8) (v := ?_) rfl (by kernel_rfl) (by kernel_rfl) (by kernel_rfl) (fun _ _ _ h => h) (Or.inl ⟨rfl, ?_⟩) (by assumption) ?_; rotate_left; focus (intro W hSw; (try dsimp only at hSw); obtain ⟨⟨⟨i0, i1, i2, i3, i4, i5⟩, _, iz⟩, ⟨⟨c0, c1⟩, _, cz⟩, _⟩ := HC.out _ (below_after hSw HBR.out); go_simp; try (with_reducible rfl))); (try simp only [Act.put, List.getElem_toArray, List.getElem_cons_succ, List.getElem_cons_zero, List.setIfInBounds_toArray, List.set_cons_zero, List.set_cons_succ])
                refine wpAnyH_ready (rs := [9]) (by kernel_rfl) (by simp) ?_; refine AllReadyH.cons rfl (fun K hK => ?_) AllReadyH.nil
                go_simp; (go_at_call 71; refine (HT2.out _).mono ?_; rintro en yw0 ⟨rfl, hb2⟩); refine hK.out _ _ (below_after hb2 hHeld) (fun hHeld2 => ?_); clear hb2; (clear hHeld; rename _ => hHeld; clear hK K; have hHeld : Below wr.heap.size wr _ := hHeld); (try simp only [Act.put, List.getElem_toArray, List.getElem_cons_succ, List.getElem_cons_zero, List.setIfInBounds_toArray, List.set_cons_zero, List.set_cons_succ])
                (refine wpAnyH_take (i := 10) (v := ?_) rfl (by kernel_rfl) (by kernel_rfl) (by kernel_rfl) (fun _ _ _ h => h) (Or.inl ⟨rfl, ?_⟩) (by assumption) ?_; rotate_left; focus (intro W hSw; (try dsimp only at hSw); obtain ⟨⟨⟨i0, i1, i2, i3, i4, i5⟩, _, iz⟩, ⟨⟨c0, c1⟩, _, cz⟩, _⟩ := HC.out _ (below_after hSw HBR.out); go_simp; try (with_reducible rfl))); (try simp only [Act.put, List.getElem_toArray, List.getElem_cons_succ, List.getElem_cons_zero, List.setIfInBounds_toArray, List.set_cons_zero, List.set_cons_succ])
                refine wpAnyH_done (by kernel_rfl) ?_ _
                have hbz := below_after hHeld HBR.out
                clear hHeld
                have hout : inT x0 y0 x1 y1 x2 y2 x y = false := by rw [HIY.out, HP.out]; simp
                have hrow := HY.out.2.2.2.2 hout
                have hR : rowsN (rowY x0 y0 x1 y1 x2 y2) (lo + 1) (k + 1) = ((rowsN (rowY x0 y0 x1 y1 x2 y2) (lo + 1) k) ++ rowP x (iotN s j)) := by rw [HXX.out.2.1, hrow]
                have HR := Lib.hid hR
                clear hout hrow hR
                go_wp2
                go_roundw
                case rel => exact ⟨k + 1, n, va, vc, HXX.out.2.2.2.1, by rw [HR.out]; exact HN.out, rfl, by rw [HXX.out.2.2.1], by rw [HR.out]; exact (HC.out _ hbz).2.2.2, (HC.out _ hbz).2.2.1⟩
                case measure => simp [intOf]; omega
            · have hall : inT x0 y0 x1 y1 x2 y2 x y = true := by
                rw [HIY.out]
                have a0 := HSS.out.1 (by omega)
                have a1 := HSS.out.2.1 (by omega)
                have a2 := HSS.out.2.2 (by omega)
                simp [a0, a1, a2]
              have hy9 := HY.out.1 hall
              have hylo := HY.out.2.1
              have hwy : IntKind.i64.wrap (y + 1) = y + 1 := by rw [IntKind.wrap_i64]; omega
              have HALL := Lib.hid hall
              obtain ⟨_, ⟨⟨c0, c1⟩, _, cz⟩, hbw, hOw⟩ := HC.out _ hbr
              have HO2 := Lib.hid (hOw.below ((Below.refl _ _).alloc (Nat.le_refl _) (.cells #[.int .i64 x, .int .i64 y] 25)))
              have HBF : Hid (Below wB.heap.size wB (wr.alloc (.cells #[.int .i64 x, .int .i64 y] 25))) := hbw.alloc hbw.size _
              clear hall hOw hbw hbr
              go_wp2_with (at_builtin; refine wpList_app_F1 wB rfl _ _ rfl HO2.out (a0 := x) (a1 := y) ?c0 ?c1 HBF.out rfl rfl (by have := HNB.out; omega) ?_)
              case c0 => go_cell
              case c1 => go_cell
              intro v' w' ho hb
              have ho' : OwnF wB.heap.size w' v' (n + 1) (flat ((rowsN (rowY x0 y0 x1 y1 x2 y2) (lo + 1) k) ++ rowP x (iotN s (j + 1)))) := by
                rw [HY.out.2.2.2.1, ← List.append_assoc, flat_append]; exact ho
              have hn' : n + 1 = ((rowsN (rowY x0 y0 x1 y1 x2 y2) (lo + 1) k) ++ rowP x (iotN s (j + 1))).length := by rw [HY.out.2.2.2.1, ← List.append_assoc, List.length_append, ← HN.out]; rfl
              have hin' : ∀ i : Nat, i < j + 1 → inT x0 y0 x1 y1 x2 y2 x (s + i) = true := by
                intro i hi
                by_cases he : i < j
                · exact HIN.out i he
                · have hij : i = j := by omega
                  have h1 := HALL.out
                  have h2 := HY.out.2.2.1
                  rw [hij, show s + (j : Int) = y by omega]
                  exact h1
              obtain ⟨va', vc', rfl, _⟩ := own_viewF ho'
              have HO4 := Lib.hid (And.intro ho' (And.intro hn' hin'))
              clear ho ho' hn' hin'
              go_wp2
              go_roundw
              case rel => exact ⟨j + 1, n + 1, va', vc', HO4.out.2.1, rfl, by rw [HY.out.2.2.1], HO4.out.2.2, HO4.out.1, hb⟩
              case measure => simp [intOf]; omega
      · have hkK : k = (hi - lo - 1).toNat := by omega
        have hfin : (rowsN (rowY x0 y0 x1 y1 x2 y2) (lo + 1) k) = L := by rw [hkK]; exact HLL.out.symm
        have HF := Lib.hid hfin
        clear hfin hkK
        go_wp2
        (try rw [Exit.noGoto_ret])
        refine bodyPost_ret (v := .slice va n vc) (by simp (maxDischargeDepth := 8) [results, Try.results72, go_sem, *]) rfl ?_
        exact ⟨_, rfl, own_up (by have h1 := HO.out; have h2 := HN.out; rw [HF.out] at h1 h2; rw [← h2]; exact h1) HBW.out.size, below_after hbel HBW.out⟩
def ipC (x0 y0 x1 y1 x2 y2 : Int) : Int := if isT x0 y0 x1 y1 x2 y2 = true then (if 1000 < inN x0 y0 x1 y1 x2 y2 then 3 else 0) else 1
def ipP (x0 y0 x1 y1 x2 y2 : Int) : List (Int × Int) := if ipC x0 y0 x1 y1 x2 y2 = 0 then (if sd x0 y0 x1 y1 x2 y2 < 0 then inL x0 y0 x2 y2 x1 y1 else inL x0 y0 x1 y1 x2 y2) else []
theorem ipC_no {x0 y0 x1 y1 x2 y2 : Int} (h : isT x0 y0 x1 y1 x2 y2 = false) : ipC x0 y0 x1 y1 x2 y2 = 1 ∧ ipP x0 y0 x1 y1 x2 y2 = [] := by
  have e : ipC x0 y0 x1 y1 x2 y2 = 1 := by unfold ipC; rw [h]; rfl
  exact ⟨e, by unfold ipP; rw [e]; rfl⟩
theorem ipC_many {x0 y0 x1 y1 x2 y2 : Int} (h : isT x0 y0 x1 y1 x2 y2 = true) (k : 1000 < inN x0 y0 x1 y1 x2 y2) : ipC x0 y0 x1 y1 x2 y2 = 3 ∧ ipP x0 y0 x1 y1 x2 y2 = [] := by
  have e : ipC x0 y0 x1 y1 x2 y2 = 3 := by unfold ipC; rw [h, if_pos rfl, if_pos k]
  exact ⟨e, by unfold ipP; rw [e]; rfl⟩
theorem ipC_yes {x0 y0 x1 y1 x2 y2 : Int} (h : isT x0 y0 x1 y1 x2 y2 = true) (k : ¬ 1000 < inN x0 y0 x1 y1 x2 y2) : ipC x0 y0 x1 y1 x2 y2 = 0 ∧ ipP x0 y0 x1 y1 x2 y2 = if sd x0 y0 x1 y1 x2 y2 < 0 then inL x0 y0 x2 y2 x1 y1 else inL x0 y0 x1 y1 x2 y2 := by
  have e : ipC x0 y0 x1 y1 x2 y2 = 0 := by unfold ipC; rw [h, if_pos rfl, if_neg k]
  exact ⟨e, by unfold ipP; rw [e]; rfl⟩
theorem ipP_len (x0 y0 x1 y1 x2 y2 : Int) : (ipP x0 y0 x1 y1 x2 y2).length ≤ 8388608 := by
  cases h : isT x0 y0 x1 y1 x2 y2
  · rw [(ipC_no h).2]; simp
  · by_cases k : 1000 < inN x0 y0 x1 y1 x2 y2
    · rw [(ipC_many h k).2]; simp
    · rw [(ipC_yes h k).2]
      obtain ⟨s0, s1, s2, s3, s4, s5, _⟩ := isT_iff.1 h
      obtain ⟨a1, a2, _⟩ := mn_bd s0 s2 s4
      obtain ⟨b1, b2, _⟩ := mn_bd s1 s3 s5
      obtain ⟨c1, c2, _⟩ := mn_bd s0 s4 s2
      obtain ⟨d1, d2, _⟩ := mn_bd s1 s5 s3
      split
      · have := inL_len (a := x0) (b := y0) (c := x2) (d := y2) (e := x1) (f := y1) (by omega) (by omega)
        omega
      · have := inL_len (a := x0) (b := y0) (c := x1) (d := y1) (e := x2) (f := y2) (by omega) (by omega)
        omega
set_option maxHeartbeats 4000000 in
theorem impl_InnerPoints_any (x0 y0 x1 y1 x2 y2 : Int) (w : World) : Calls Try.prog 27 #[.agg #[.int .i64 x0, .int .i64 y0, .int .i64 x1, .int .i64 y1, .int .i64 x2, .int .i64 y2]] w fun e w' => ∃ v, e = .returned (.tuple #[v, .int .i64 (ipC x0 y0 x1 y1 x2 y2)]) ∧ OwnF w.heap.size w' v (ipP x0 y0 x1 y1 x2 y2).length (flat (ipP x0 y0 x1 y1 x2 y2)) ∧ Below w.heap.size w w' := by
  have hci := impl_CountInner_any x0 y0 x1 y1 x2 y2
  cases h : isT x0 y0 x1 y1 x2 y2
  · rw [tC_no h, onT_no h] at hci
    rw [(ipC_no h).1, (ipC_no h).2]
    have HCI := Lib.hid hci
    clear hci
    have hs20 : w.heap.size < w.heap.size + 1 + 1 := (by omega); have hs30 : w.heap.size < w.heap.size + 1 + 1 + 1 := (by omega); have hs31 : w.heap.size + 1 < w.heap.size + 1 + 1 + 1 := (by omega); have hs40 : w.heap.size < w.heap.size + 1 + 1 + 1 + 1 := (by omega); have hs41 : w.heap.size + 1 < w.heap.size + 1 + 1 + 1 + 1 := (by omega); have hs42 : w.heap.size + 1 + 1 < w.heap.size + 1 + 1 + 1 + 1 := (by omega)
    go_enter Try.func27, Try.ntmps27
    go_wp2_with (first | (go_at_call 25; refine (HCI.out _).mono ?_; rintro e wn ⟨rfl, hb⟩; first | (have h2 := after_call2 hb hcl hfr hlt (by ((repeat' (first | (with_reducible exact Below.refl _ _) | (with_reducible refine Below.alloc ?_ ?_ _) | (with_reducible refine Below.setCell ?_ ?_ _) | (with_reducible refine Below.drew ?_) | (with_reducible refine below_drewN ?_ _) | (with_reducible assumption) | (with_reducible refine below_after (by with_reducible assumption) ?_) | go_size)); done)); obtain ⟨hclx, hfrx, hltx, hsz⟩ := after_call hb; (try simp only [World.size_alloc, World.size_setCell, World.size_drew] at hclx hfrx hltx hsz); (try (have hszl := Nat.lt_of_succ_le hsz)); obtain ⟨hcl, hfr, hlt⟩ := h2) | (obtain ⟨hcl, hfr, hlt, hsz⟩ := after_call hb; (try simp only [World.size_alloc, World.size_setCell, World.size_drew] at hcl hfr hlt hsz))))
    refine bodyPost_ret (v := .tuple #[.slice none 0 0, .int .i64 1]) (by simp (maxDischargeDepth := 8) [results, Try.results27, go_sem, *]) rfl ?_
    exact ⟨_, rfl, World.ownsRow_nil _ _ _ _, by (repeat' (first | (with_reducible exact Below.refl _ _) | (with_reducible refine Below.alloc ?_ ?_ _) | (with_reducible refine Below.setCell ?_ ?_ _) | (with_reducible refine Below.drew ?_) | (with_reducible refine below_drewN ?_ _) | (with_reducible assumption) | (with_reducible refine below_after (by with_reducible assumption) ?_) | go_size))⟩
  · rw [tC_yes h, onT_yes h] at hci
    by_cases k : 1000 < inN x0 y0 x1 y1 x2 y2
    · rw [(ipC_many h k).1, (ipC_many h k).2]
      obtain ⟨c, hc⟩ : ∃ c, inN x0 y0 x1 y1 x2 y2 = c := ⟨_, rfl⟩
      rw [hc] at hci k
      have HCI := Lib.hid hci
      clear hci hc
      have hs20 : w.heap.size < w.heap.size + 1 + 1 := (by omega); have hs30 : w.heap.size < w.heap.size + 1 + 1 + 1 := (by omega); have hs31 : w.heap.size + 1 < w.heap.size + 1 + 1 + 1 := (by omega); have hs40 : w.heap.size < w.heap.size + 1 + 1 + 1 + 1 := (by omega); have hs41 : w.heap.size + 1 < w.heap.size + 1 + 1 + 1 + 1 := (by omega); have hs42 : w.heap.size + 1 + 1 < w.heap.size + 1 + 1 + 1 + 1 := (by omega)
      go_enter Try.func27, Try.ntmps27
      go_wp2_with (first | (go_at_call 25; refine (HCI.out _).mono ?_; rintro e wn ⟨rfl, hb⟩; first | (have h2 := after_call2 hb hcl hfr hlt (by ((repeat' (first | (with_reducible exact Below.refl _ _) | (with_reducible refine Below.alloc ?_ ?_ _) | (with_reducible refine Below.setCell ?_ ?_ _) | (with_reducible refine Below.drew ?_) | (with_reducible refine below_drewN ?_ _) | (with_reducible assumption) | (with_reducible refine below_after (by with_reducible assumption) ?_) | go_size)); done)); obtain ⟨hclx, hfrx, hltx, hsz⟩ := after_call hb; (try simp only [World.size_alloc, World.size_setCell, World.size_drew] at hclx hfrx hltx hsz); (try (have hszl := Nat.lt_of_succ_le hsz)); obtain ⟨hcl, hfr, hlt⟩ := h2) | (obtain ⟨hcl, hfr, hlt, hsz⟩ := after_call hb; (try simp only [World.size_alloc, World.size_setCell, World.size_drew] at hcl hfr hlt hsz))))
      refine bodyPost_ret (v := .tuple #[.slice none 0 0, .int .i64 3]) (by simp (maxDischargeDepth := 8) [results, Try.results27, go_sem, *]) rfl ?_
      exact ⟨_, rfl, World.ownsRow_nil _ _ _ _, by (repeat' (first | (with_reducible exact Below.refl _ _) | (with_reducible refine Below.alloc ?_ ?_ _) | (with_reducible refine Below.setCell ?_ ?_ _) | (with_reducible refine Below.drew ?_) | (with_reducible refine below_drewN ?_ _) | (with_reducible assumption) | (with_reducible refine below_after (by with_reducible assumption) ?_) | go_size))⟩
    · rw [(ipC_yes h k).1, (ipC_yes h k).2]
      obtain ⟨c, hc⟩ : ∃ c, inN x0 y0 x1 y1 x2 y2 = c := ⟨_, rfl⟩
      rw [hc] at hci k
      obtain ⟨s0, s1, s2, s3, s4, s5, _⟩ := isT_iff.1 h
      have HCI := Lib.hid hci
      have HTO : Hid (∀ w, Calls Try.prog 71 #[.agg #[.int .i64 x0, .int .i64 y0], .agg #[.int .i64 x1, .int .i64 y1], .agg #[.int .i64 x2, .int .i64 y2]] w fun e w' => e = .returned (.int .i64 (sd x0 y0 x1 y1 x2 y2)) ∧ Below w.heap.size w w') := fun w => turnOf_big _ _ _ _ _ _ w s0.q8 s1.q8 s2.q8 s3.q8 s4.q8 s5.q8
      have HI1 : Hid (∀ w, Calls Try.prog 72 #[.agg #[.int .i64 x0, .int .i64 y0, .int .i64 x1, .int .i64 y1, .int .i64 x2, .int .i64 y2]] w fun e w' => ∃ v, e = .returned v ∧ OwnF w.heap.size w' v (inL x0 y0 x1 y1 x2 y2).length (flat (inL x0 y0 x1 y1 x2 y2)) ∧ Below w.heap.size w w') := fun w => pointsInside_any x0 y0 x1 y1 x2 y2 w s0 s1 s2 s3 s4 s5
      have HI2 : Hid (∀ w, Calls Try.prog 72 #[.agg #[.int .i64 x0, .int .i64 y0, .int .i64 x2, .int .i64 y2, .int .i64 x1, .int .i64 y1]] w fun e w' => ∃ v, e = .returned v ∧ OwnF w.heap.size w' v (inL x0 y0 x2 y2 x1 y1).length (flat (inL x0 y0 x2 y2 x1 y1)) ∧ Below w.heap.size w w') := fun w => pointsInside_any x0 y0 x2 y2 x1 y1 w s0 s1 s4 s5 s2 s3
      obtain ⟨D, hD⟩ : ∃ D, sd x0 y0 x1 y1 x2 y2 = D := ⟨_, rfl⟩
      rw [hD] at HTO
      rw [hD]
      clear hci hc hD h s0 s1 s2 s3 s4 s5
      by_cases hd : D < 0
      · rw [if_pos hd]
        obtain ⟨L, hL⟩ : ∃ L, inL x0 y0 x2 y2 x1 y1 = L := ⟨_, rfl⟩
        rw [hL] at HI2 ⊢
        clear hL HI1
        go_enter Try.func27, Try.ntmps27
        go_upto_region 1 with fail
        obtain ⟨wB, hwB⟩ : ∃ wB, wB = w.alloc (.cells #[.int .i64 x0, .int .i64 y0, .int .i64 x1, .int .i64 y1, .int .i64 x2, .int .i64 y2] 27) := ⟨_, rfl⟩
        rw [← hwB]
        have h6 : Bk6 wB w.heap.size x0 y0 x1 y1 x2 y2 := by rw [hwB]; exact bk6_new w x0 y0 x1 y1 x2 y2 _
        have HBW : Hid (Below w.heap.size w wB) := by
          show Below w.heap.size w wB
          rw [hwB]; (repeat' (first | (with_reducible exact Below.refl _ _) | (with_reducible refine Below.alloc ?_ ?_ _) | (with_reducible refine Below.setCell ?_ ?_ _) | (with_reducible refine Below.drew ?_) | (with_reducible refine below_drewN ?_ _) | (with_reducible assumption) | (with_reducible refine below_after (by with_reducible assumption) ?_) | go_size))
        have HX : Hid (∀ W, Below wB.heap.size wB W → Bk6 W w.heap.size x0 y0 x1 y1 x2 y2) := fun W hW => h6.below hW
        clear hwB h6
        obtain ⟨⟨i0, i1, i2, i3, i4, i5⟩, _, iz⟩ := HX.out wB (Below.refl _ _)
        go_wp2_with fail
        go_at_call 25
        refine (HCI.out _).mono ?_
        rintro e w1 ⟨rfl, b1⟩
        clear i0 i1 i2 i3 i4 i5 iz
        obtain ⟨⟨i0, i1, i2, i3, i4, i5⟩, _, iz⟩ := HX.out w1 b1
        go_wp2_with fail
        go_at_call 71
        refine (HTO.out _).mono ?_
        rintro e w2 ⟨rfl, b2⟩
        have hb2 := below_after b2 b1
        clear i0 i1 i2 i3 i4 i5 iz
        obtain ⟨⟨i0, i1, i2, i3, i4, i5⟩, _, iz⟩ := HX.out w2 hb2
        go_wp2_with fail
        go_at_call 72
        refine (HI2.out _).mono ?_
        rintro e w3 ⟨v, rfl, ho, b3⟩
        obtain ⟨va, vc, rfl, _⟩ := own_viewF ho
        have hoF := own_up ho (Nat.le_trans HBW.out.size hb2.size)
        have hbF := below_after (below_after b3 hb2) HBW.out
        clear i0 i1 i2 i3 i4 i5 iz ho b3 b1 b2 hb2
        go_wp2
        refine bodyPost_ret (v := .tuple #[.slice va L.length vc, .int .i64 0]) (by simp (maxDischargeDepth := 8) [results, Try.results27, go_sem, *]) rfl ?_
        exact ⟨_, rfl, hoF, hbF⟩
      · rw [if_neg hd]
        obtain ⟨L, hL⟩ : ∃ L, inL x0 y0 x1 y1 x2 y2 = L := ⟨_, rfl⟩
        rw [hL] at HI1 ⊢
        clear hL HI2
        go_enter Try.func27, Try.ntmps27
        go_upto_region 1 with fail
        obtain ⟨wB, hwB⟩ : ∃ wB, wB = w.alloc (.cells #[.int .i64 x0, .int .i64 y0, .int .i64 x1, .int .i64 y1, .int .i64 x2, .int .i64 y2] 27) := ⟨_, rfl⟩
        rw [← hwB]
        have h6 : Bk6 wB w.heap.size x0 y0 x1 y1 x2 y2 := by rw [hwB]; exact bk6_new w x0 y0 x1 y1 x2 y2 _
        have HBW : Hid (Below w.heap.size w wB) := by
          show Below w.heap.size w wB
          rw [hwB]; (repeat' (first | (with_reducible exact Below.refl _ _) | (with_reducible refine Below.alloc ?_ ?_ _) | (with_reducible refine Below.setCell ?_ ?_ _) | (with_reducible refine Below.drew ?_) | (with_reducible refine below_drewN ?_ _) | (with_reducible assumption) | (with_reducible refine below_after (by with_reducible assumption) ?_) | go_size))
        have HX : Hid (∀ W, Below wB.heap.size wB W → Bk6 W w.heap.size x0 y0 x1 y1 x2 y2) := fun W hW => h6.below hW
        clear hwB h6
        obtain ⟨⟨i0, i1, i2, i3, i4, i5⟩, _, iz⟩ := HX.out wB (Below.refl _ _)
        go_wp2_with fail
        go_at_call 25
        refine (HCI.out _).mono ?_
        rintro e w1 ⟨rfl, b1⟩
        clear i0 i1 i2 i3 i4 i5 iz
        obtain ⟨⟨i0, i1, i2, i3, i4, i5⟩, _, iz⟩ := HX.out w1 b1
        go_wp2_with fail
        go_at_call 71
        refine (HTO.out _).mono ?_
        rintro e w2 ⟨rfl, b2⟩
        have hb2 := below_after b2 b1
        clear i0 i1 i2 i3 i4 i5 iz
        obtain ⟨⟨i0, i1, i2, i3, i4, i5⟩, _, iz⟩ := HX.out w2 hb2
        go_wp2_with fail
        go_at_call 72
        refine (HI1.out _).mono ?_
        rintro e w3 ⟨v, rfl, ho, b3⟩
        obtain ⟨va, vc, rfl, _⟩ := own_viewF ho
        have hoF := own_up ho (Nat.le_trans HBW.out.size hb2.size)
        have hbF := below_after (below_after b3 hb2) HBW.out
        clear i0 i1 i2 i3 i4 i5 iz ho b3 b1 b2 hb2
        go_wp2
        refine bodyPost_ret (v := .tuple #[.slice va L.length vc, .int .i64 0]) (by simp (maxDischargeDepth := 8) [results, Try.results27, go_sem, *]) rfl ?_
        exact ⟨_, rfl, hoF, hbF⟩
end Go.Proofs.Ytcgaikedbhdbgaa
