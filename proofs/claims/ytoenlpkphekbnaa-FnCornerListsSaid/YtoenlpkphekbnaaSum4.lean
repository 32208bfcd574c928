/-
  Contract of chapter 2's SumOfCorners in the model (own work).
-/
import Derived.Test.YtoenlpkphekbnaaSum2
namespace Go.Proofs.Ytoenlpkphekbnaa
open Go.ChangeShapes Go.WideShapes Go.ChangeAt Go.RowKit
set_option linter.unusedVariables false
set_option maxRecDepth 100000
set_option linter.unusedSimpArgs false
def c2C (a b c d e f g h : Int) : Int := if isCr a b c d = true ∧ isCr e f g h = true then (if fitC a b c d = true ∧ fitC e f g h = true then 0 else 3) else 1
theorem src_new {A W : World} (n : Int) (h : Below A.heap.size A W) : Src (W.alloc (.cells #[.int .i64 n] 2)) W.heap.size [n] := Src.one W n _
theorem below_new {A W : World} (n : Int) (h : Below A.heap.size A W) : Below W.heap.size W (W.alloc (.cells #[.int .i64 n] 2)) := (Below.refl _ _).alloc (Nat.le_refl _) _
theorem wp_append_src (B : Nat) {W : World} {o : Oper} {a : Act} {K : Act → World → Prop} {Q : Exit → Act → World → Prop} (s x : Operand)
    (ho : o.op = .call { callee := .builtin .append, args := #[s, x], argTypes := #[66, 66] })
    {v : Value} {xs ys : List Int} {g c : Nat} (hown : OwnI B W v xs) (hsrc : Src W g ys) (hb : B ≤ W.heap.size) (hs : a.eval s = v) (hx : a.eval x = .slice (some ⟨g, 0, none⟩) ys.length c) (hlen : xs.length + ys.length ≤ 8388608)
    (hK : ∀ v' w', OwnI B w' v' (xs ++ ys) → W.grownBy w' v.ownBlock → K (a.put o.dst v') w') : Oper.wp Try.prog o a W K Q := by
  obtain ⟨i0, hi, hz0, hz1, hz2⟩ := info_parts info_int
  refine wp_append_own s x 66 ho B 2 i0 (.int .i64 0) 1 8 Try.underlying66 hi hz0 hz1 hz2 rfl (by decide) v _ _ hs hown ⟨g, 0, none⟩ ys.length c (ys.map (Value.int .i64)) hx ?_ ?_ ?_ ?_ ?_ hb ?_
  · rw [List.length_map]; omega
  · intro j u hj
    rw [List.getElem?_map] at hj
    cases hy : ys[j]? with
    | none => rw [hy] at hj; cases hj
    | some y =>
      rw [hy] at hj
      cases hj
      have hjm := (List.getElem?_eq_some_iff.1 hy).1
      have e : (Addr.add ⟨g, 0, none⟩ j) = ⟨g, j, none⟩ := by unfold Addr.add; split <;> simp_all
      rw [e, hsrc.2 j hjm]
      simp [List.getD, hy]
  · intro u hu; simp only [List.mem_map] at hu; obtain ⟨y, _, rfl⟩ := hu; rfl
  · unfold maxLen; omega
  · omega
  · intro v' w' h1 h2
    refine hK v' w' ?_ h2
    show w'.ownsRow B 2 1 v' (xs ++ ys).length ((xs ++ ys).map (Value.int .i64))
    rw [List.length_append, List.map_append]; exact h1
theorem l02Code2_c (a b c d e f g h : Int) (p cap : Nat) (w : World) (hp : p < w.heap.size) (c0 : w.cell? ⟨p, 0, none⟩ = some (.int .i64 a)) (c1 : w.cell? ⟨p, 1, none⟩ = some (.int .i64 b)) (c2 : w.cell? ⟨p, 2, none⟩ = some (.int .i64 c)) (c3 : w.cell? ⟨p, 3, none⟩ = some (.int .i64 d))
    (c4 : w.cell? ⟨p, 4, none⟩ = some (.int .i64 e)) (c5 : w.cell? ⟨p, 5, none⟩ = some (.int .i64 f)) (c6 : w.cell? ⟨p, 6, none⟩ = some (.int .i64 g)) (c7 : w.cell? ⟨p, 7, none⟩ = some (.int .i64 h)) :
    Calls Try.prog 114 #[.slice (some ⟨p, 0, none⟩) 2 cap] w fun en w' => en = .returned (.int .i64 (c2C a b c d e f g h)) ∧ Below w.heap.size w w' := l02Code2_any a b c d e f g h p cap w hp c0 c1 c2 c3 c4 c5 c6 c7
set_option maxHeartbeats 3200000 in
theorem spec_Sum_main (a b c d e f g h n : Int) (w : World) (k1 : isCr a b c d = true) (k2 : isCr e f g h = true) (l : crd n = true) (m : fitC a b c d = true) (m2 : fitC e f g h = true) : Calls Try.prog 70 #[.agg #[.int .i64 a, .int .i64 b, .int .i64 c, .int .i64 d], .agg #[.int .i64 e, .int .i64 f, .int .i64 g, .int .i64 h], .int .i64 n] w fun en w' => en = .returned (smV a b c d e f g h n) ∧ Below w.heap.size w w' := by
  have HR : Hid (c2C a b c d e f g h = 0) := by show c2C a b c d e f g h = 0; unfold c2C; simp [k1, k2, m, m2]
  obtain ⟨q0, q1, _⟩ := isCr_parts k1
  obtain ⟨q2, q3, _⟩ := isCr_parts k2
  have H0 := Lib.hid q0
  have H1 := Lib.hid q1
  have H2 := Lib.hid q2
  have H3 := Lib.hid q3
  have HCx := Lib.hid k1
  have HCy := Lib.hid k2
  have HLx : Hid (∀ w, Calls Try.prog 124 #[.int .i64 (sinI a b c d), .int .i64 (cosI a b c d)] w (RetI w (lnC a b c d))) := by
    intro w
    rw [lnC_yes k1 m]
    have := cos_bd k1
    have := fitC_iff.1 m
    exact l02Long_any _ _ w (sin_pos k1).1 this (by omega) (by omega)
  have HLy : Hid (∀ w, Calls Try.prog 124 #[.int .i64 (sinI e f g h), .int .i64 (cosI e f g h)] w (RetI w (lnC e f g h))) := by
    intro w
    rw [lnC_yes k2 m2]
    have := cos_bd k2
    have := fitC_iff.1 m2
    exact l02Long_any _ _ w (sin_pos k2).1 this (by omega) (by omega)
  have HNx := Lib.hid (lnC_len a b c d)
  have HNy := Lib.hid (lnC_len e f g h)
  have HPy := Lib.hid (lnC_ne k2 m2)
  have HLe := Lib.hid (smL_el k1 k2 l m m2)
  have HBc : Hid (smC a b c d e f g h n = if 60 < (smL a b c d e f g h n).length then 3 else colC (smL a b c d e f g h n)) := smC_b k1 k2 l m m2
  have HPx := Lib.hid (lnC_ne k1 m)
  have HlX : Hid ((smL a b c d e f g h n).length = (lnC a b c d).length + 1 + (lnC e f g h).length) := by
    show (smL a b c d e f g h n).length = _
    unfold smL; rw [List.length_append, List.length_append]; rfl
  clear q0 q1 q2 q3 m m2
  have hs20 : w.heap.size < w.heap.size + 1 + 1 := (by omega); have hs30 : w.heap.size < w.heap.size + 1 + 1 + 1 := (by omega); have hs31 : w.heap.size + 1 < w.heap.size + 1 + 1 + 1 := (by omega)
  go_enter Try.func70, Try.ntmps70
  go_wp2_with (first | (go_at_call 114; refine (l02Code2_c a b c d e f g h _ _ _ (by simp) (by go_cell) (by go_cell) (by go_cell) (by go_cell) (by go_cell) (by go_cell) (by go_cell) (by go_cell)).mono ?_; rw [HR.out]; rintro en wB ⟨rfl, hb⟩; obtain ⟨hcl, hfr, hlt, hsz⟩ := after_call hb; (try simp only [World.size_alloc, World.size_setCell, World.size_drew] at hcl hfr hlt hsz)) | (go_at_call 103; refine (fits_any _ _).mono ?_; rintro e wn ⟨rfl, rfl⟩))
  have HX : Hid (∀ W, Below wB.heap.size wB W → W.cell? ⟨w.heap.size, 0, none⟩ = some (.int .i64 a) ∧ W.cell? ⟨w.heap.size, 1, none⟩ = some (.int .i64 b) ∧ W.cell? ⟨w.heap.size, 2, none⟩ = some (.int .i64 c) ∧ W.cell? ⟨w.heap.size, 3, none⟩ = some (.int .i64 d) ∧ W.cell? ⟨w.heap.size + 1, 0, none⟩ = some (.int .i64 e) ∧ W.cell? ⟨w.heap.size + 1, 1, none⟩ = some (.int .i64 f) ∧ W.cell? ⟨w.heap.size + 1, 2, none⟩ = some (.int .i64 g) ∧ W.cell? ⟨w.heap.size + 1, 3, none⟩ = some (.int .i64 h) ∧ w.heap.size + 2 < W.heap.size) := by
    intro W hW
    have hz := hW.size
    refine ⟨?_, ?_, ?_, ?_, ?_, ?_, ?_, ?_, by omega⟩
    all_goals (rw [(bcell hW).1 _ _ (by omega)]; go_cell)
  have HB0 : Hid (Below w.heap.size w wB) := by show Below w.heap.size w wB; (repeat' (first | (with_reducible exact Below.refl _ _) | (with_reducible refine Below.alloc ?_ ?_ _) | (with_reducible refine Below.setCell ?_ ?_ _) | (with_reducible refine Below.drew ?_) | (with_reducible refine below_drewN ?_ _) | (with_reducible assumption) | (with_reducible refine below_after (by with_reducible assumption) ?_) | go_size))
  clear hb
  go_cut [9] (fun v9 wx => OwnI wB.heap.size wx v9 (lnC a b c d ++ [n]) ∧ Below wB.heap.size wB wx)
  case first =>
    refine wp_region_held_drew (S := fun W => Below wB.heap.size wB W) (by kernel_rfl) ?_ (fun hHeld => ?_); focus ((try dsimp only); (repeat' (first | (with_reducible exact Below.refl _ _) | (with_reducible refine Below.alloc ?_ ?_ _) | (with_reducible refine Below.setCell ?_ ?_ _) | (with_reducible refine Below.drew ?_) | (with_reducible refine below_drewN ?_ _) | (with_reducible assumption) | (with_reducible refine below_after (by with_reducible assumption) ?_) | go_size)))
    (refine wpAnyH_take (i := 0) (v := ?_) rfl (by kernel_rfl) (by kernel_rfl) (by kernel_rfl) (fun _ _ _ h => h) (Or.inl ⟨rfl, ?_⟩) (by assumption) ?_; rotate_left; focus (intro W hSw; (try dsimp only at hSw); obtain ⟨x0, x1, x2, x3, y0, y1, y2, y3, xz⟩ := HX.out _ hSw; go_simp; try (with_reducible rfl))); (try simp only [Act.put, List.getElem_toArray, List.getElem_cons_succ, List.getElem_cons_zero, List.setIfInBounds_toArray, List.set_cons_zero, List.set_cons_succ])
    (refine wpAnyH_take (i := 2) (v := ?_) rfl (by kernel_rfl) (by kernel_rfl) (by kernel_rfl) (fun _ _ _ h => h) (Or.inl ⟨rfl, ?_⟩) (by assumption) ?_; rotate_left; focus (intro W hSw; (try dsimp only at hSw); obtain ⟨x0, x1, x2, x3, y0, y1, y2, y3, xz⟩ := HX.out _ hSw; go_simp; try (with_reducible rfl))); (try simp only [Act.put, List.getElem_toArray, List.getElem_cons_succ, List.getElem_cons_zero, List.setIfInBounds_toArray, List.set_cons_zero, List.set_cons_succ])
    (refine wpAnyH_take (i := 5) (v := ?_) rfl (by kernel_rfl) (by kernel_rfl) (by kernel_rfl) (fun _ _ _ h => h) (Or.inl ⟨rfl, ?_⟩) (by assumption) ?_; rotate_left; focus (intro W hSw; (try dsimp only at hSw); obtain ⟨x0, x1, x2, x3, y0, y1, y2, y3, xz⟩ := HX.out _ hSw; go_simp; try (with_reducible rfl))); (try simp only [Act.put, List.getElem_toArray, List.getElem_cons_succ, List.getElem_cons_zero, List.setIfInBounds_toArray, List.set_cons_zero, List.set_cons_succ])
    refine wpAnyH_ready (rs := [1, 6]) (by kernel_rfl) (by simp) ?_; refine AllReadyH.cons rfl (fun K hK => ?_) (AllReadyH.cons rfl (fun K hK => ?_) AllReadyH.nil)
    · go_simp; (go_at_call 116; refine (l02Sine_any _ _ _ _ _ H0.out H1.out).mono ?_; rintro en wn ⟨rfl, hb⟩); refine hK.out _ _ (below_after hb hHeld) (fun hHeld2 => ?_); clear hb; (clear hHeld; rename _ => hHeld; clear hK K); (try simp only [Act.put, List.getElem_toArray, List.getElem_cons_succ, List.getElem_cons_zero, List.setIfInBounds_toArray, List.set_cons_zero, List.set_cons_succ])
      refine wpAnyH_ready (rs := [3, 6]) (by kernel_rfl) (by simp) ?_; refine AllReadyH.cons rfl (fun K hK => ?_) (AllReadyH.cons rfl (fun K hK => ?_) AllReadyH.nil)
      · go_simp; (go_at_call 115; refine (l02Cosine_any _ _ _ _ _ HCx.out).mono ?_; rintro en wn ⟨rfl, hb⟩); refine hK.out _ _ (below_after hb hHeld) (fun hHeld2 => ?_); clear hb; (clear hHeld; rename _ => hHeld; clear hK K); (try simp only [Act.put, List.getElem_toArray, List.getElem_cons_succ, List.getElem_cons_zero, List.setIfInBounds_toArray, List.set_cons_zero, List.set_cons_succ])
        refine wpAnyH_ready (rs := [4, 6]) (by kernel_rfl) (by simp) ?_; refine AllReadyH.cons rfl (fun K hK => ?_) (AllReadyH.cons rfl (fun K hK => ?_) AllReadyH.nil)
        · go_simp; (go_at_call 124; refine (HLx.out _).mono ?_; rintro en wn ⟨v, rfl, ho, hb⟩); have HO := Lib.hid (own_monoB ho (Below.size hHeld)); clear ho; refine hK.out _ _ (below_after hb hHeld) (fun hHeld2 => ?_); clear hb; (clear hHeld; rename _ => hHeld; clear hK K); (try simp only [Act.put, List.getElem_toArray, List.getElem_cons_succ, List.getElem_cons_zero, List.setIfInBounds_toArray, List.set_cons_zero, List.set_cons_succ])
          refine wpAnyH_ready (rs := [6]) (by kernel_rfl) (by simp) ?_; refine AllReadyH.cons rfl (fun K hK => ?_) AllReadyH.nil
          go_simp; have HS := Lib.hid (src_new n hHeld); have HO := Lib.hid (OwnI.below HO.out (below_new n hHeld)); refine hK.out _ _ (hHeld.alloc (Below.size hHeld) _) (fun hHeld2 => ?_); (clear hHeld; rename _ => hHeld; clear hK K); (try simp only [Act.put, List.getElem_toArray, List.getElem_cons_succ, List.getElem_cons_zero, List.setIfInBounds_toArray, List.set_cons_zero, List.set_cons_succ])
          refine wpAnyH_ready (rs := [7]) (by kernel_rfl) (by simp) ?_; refine AllReadyH.cons rfl (fun K hK => ?_) AllReadyH.nil
          refine wp_append_src wB.heap.size (.tmp 31) (.tmp 33) rfl HO.out HS.out (Below.size hHeld) rfl rfl (by have := HNx.out; simp only [List.length_cons, List.length_nil]; omega) ?_
          intro v' w' ho hg
          have hbw : Below wB.heap.size wB w' := hHeld.grown hg (Below.size hHeld) (fun k hk => (World.ownsRow.lt HO.out k hk).1)
          have HO9 := Lib.hid ho
          clear ho hg
          refine hK.out _ _ hbw (fun hHeld2 => ?_)
          clear hbw
          (clear hHeld; rename _ => hHeld; clear hK K)
          (try simp only [Act.put, List.getElem_toArray, List.getElem_cons_succ, List.getElem_cons_zero, List.setIfInBounds_toArray, List.set_cons_zero, List.set_cons_succ])
          (refine wpAnyH_take (i := 8) (v := ?_) rfl (by kernel_rfl) (by kernel_rfl) (by kernel_rfl) (fun _ _ _ h => h) (Or.inl ⟨rfl, ?_⟩) (by assumption) ?_; rotate_left; focus (intro W hSw; (try dsimp only at hSw); obtain ⟨x0, x1, x2, x3, y0, y1, y2, y3, xz⟩ := HX.out _ hSw; go_simp; try (with_reducible rfl))); (try simp only [Act.put, List.getElem_toArray, List.getElem_cons_succ, List.getElem_cons_zero, List.setIfInBounds_toArray, List.set_cons_zero, List.set_cons_succ])
          refine wpAnyH_done (by kernel_rfl) ?_ _
          go_wp2_with fail
          go_meet
          exact ⟨HO9.out, hHeld⟩
        · go_simp; have HS := Lib.hid (src_new n hHeld); refine hK.out _ _ (hHeld.alloc (Below.size hHeld) _) (fun hHeld2 => ?_); (clear hHeld; rename _ => hHeld; clear hK K); (try simp only [Act.put, List.getElem_toArray, List.getElem_cons_succ, List.getElem_cons_zero, List.setIfInBounds_toArray, List.set_cons_zero, List.set_cons_succ])
          refine wpAnyH_ready (rs := [4]) (by kernel_rfl) (by simp) ?_; refine AllReadyH.cons rfl (fun K hK => ?_) AllReadyH.nil
          go_simp; (go_at_call 124; refine (HLx.out _).mono ?_; rintro en wn ⟨v, rfl, ho, hb⟩); have HO := Lib.hid (own_monoB ho (Below.size hHeld)); clear ho; have HS := Lib.hid (HS.out.mono hb); refine hK.out _ _ (below_after hb hHeld) (fun hHeld2 => ?_); clear hb; (clear hHeld; rename _ => hHeld; clear hK K); (try simp only [Act.put, List.getElem_toArray, List.getElem_cons_succ, List.getElem_cons_zero, List.setIfInBounds_toArray, List.set_cons_zero, List.set_cons_succ])
          refine wpAnyH_ready (rs := [7]) (by kernel_rfl) (by simp) ?_; refine AllReadyH.cons rfl (fun K hK => ?_) AllReadyH.nil
          refine wp_append_src wB.heap.size (.tmp 31) (.tmp 33) rfl HO.out HS.out (Below.size hHeld) rfl rfl (by have := HNx.out; simp only [List.length_cons, List.length_nil]; omega) ?_
          intro v' w' ho hg
          have hbw : Below wB.heap.size wB w' := hHeld.grown hg (Below.size hHeld) (fun k hk => (World.ownsRow.lt HO.out k hk).1)
          have HO9 := Lib.hid ho
          clear ho hg
          refine hK.out _ _ hbw (fun hHeld2 => ?_)
          clear hbw
          (clear hHeld; rename _ => hHeld; clear hK K)
          (try simp only [Act.put, List.getElem_toArray, List.getElem_cons_succ, List.getElem_cons_zero, List.setIfInBounds_toArray, List.set_cons_zero, List.set_cons_succ])
          (refine wpAnyH_take (i := 8) (v := ?_) rfl (by kernel_rfl) (by kernel_rfl) (by kernel_rfl) (fun _ _ _ h => h) (Or.inl ⟨rfl, ?_⟩) (by assumption) ?_; rotate_left; focus (intro W hSw; (try dsimp only at hSw); obtain ⟨x0, x1, x2, x3, y0, y1, y2, y3, xz⟩ := HX.out _ hSw; go_simp; try (with_reducible rfl))); (try simp only [Act.put, List.getElem_toArray, List.getElem_cons_succ, List.getElem_cons_zero, List.setIfInBounds_toArray, List.set_cons_zero, List.set_cons_succ])
          refine wpAnyH_done (by kernel_rfl) ?_ _
          go_wp2_with fail
          go_meet
          exact ⟨HO9.out, hHeld⟩
      · go_simp; have HS := Lib.hid (src_new n hHeld); refine hK.out _ _ (hHeld.alloc (Below.size hHeld) _) (fun hHeld2 => ?_); (clear hHeld; rename _ => hHeld; clear hK K); (try simp only [Act.put, List.getElem_toArray, List.getElem_cons_succ, List.getElem_cons_zero, List.setIfInBounds_toArray, List.set_cons_zero, List.set_cons_succ])
        refine wpAnyH_ready (rs := [3]) (by kernel_rfl) (by simp) ?_; refine AllReadyH.cons rfl (fun K hK => ?_) AllReadyH.nil
        go_simp; (go_at_call 115; refine (l02Cosine_any _ _ _ _ _ HCx.out).mono ?_; rintro en wn ⟨rfl, hb⟩); have HS := Lib.hid (HS.out.mono hb); refine hK.out _ _ (below_after hb hHeld) (fun hHeld2 => ?_); clear hb; (clear hHeld; rename _ => hHeld; clear hK K); (try simp only [Act.put, List.getElem_toArray, List.getElem_cons_succ, List.getElem_cons_zero, List.setIfInBounds_toArray, List.set_cons_zero, List.set_cons_succ])
        refine wpAnyH_ready (rs := [4]) (by kernel_rfl) (by simp) ?_; refine AllReadyH.cons rfl (fun K hK => ?_) AllReadyH.nil
        go_simp; (go_at_call 124; refine (HLx.out _).mono ?_; rintro en wn ⟨v, rfl, ho, hb⟩); have HO := Lib.hid (own_monoB ho (Below.size hHeld)); clear ho; have HS := Lib.hid (HS.out.mono hb); refine hK.out _ _ (below_after hb hHeld) (fun hHeld2 => ?_); clear hb; (clear hHeld; rename _ => hHeld; clear hK K); (try simp only [Act.put, List.getElem_toArray, List.getElem_cons_succ, List.getElem_cons_zero, List.setIfInBounds_toArray, List.set_cons_zero, List.set_cons_succ])
        refine wpAnyH_ready (rs := [7]) (by kernel_rfl) (by simp) ?_; refine AllReadyH.cons rfl (fun K hK => ?_) AllReadyH.nil
        refine wp_append_src wB.heap.size (.tmp 31) (.tmp 33) rfl HO.out HS.out (Below.size hHeld) rfl rfl (by have := HNx.out; simp only [List.length_cons, List.length_nil]; omega) ?_
        intro v' w' ho hg
        have hbw : Below wB.heap.size wB w' := hHeld.grown hg (Below.size hHeld) (fun k hk => (World.ownsRow.lt HO.out k hk).1)
        have HO9 := Lib.hid ho
        clear ho hg
        refine hK.out _ _ hbw (fun hHeld2 => ?_)
        clear hbw
        (clear hHeld; rename _ => hHeld; clear hK K)
        (try simp only [Act.put, List.getElem_toArray, List.getElem_cons_succ, List.getElem_cons_zero, List.setIfInBounds_toArray, List.set_cons_zero, List.set_cons_succ])
        (refine wpAnyH_take (i := 8) (v := ?_) rfl (by kernel_rfl) (by kernel_rfl) (by kernel_rfl) (fun _ _ _ h => h) (Or.inl ⟨rfl, ?_⟩) (by assumption) ?_; rotate_left; focus (intro W hSw; (try dsimp only at hSw); obtain ⟨x0, x1, x2, x3, y0, y1, y2, y3, xz⟩ := HX.out _ hSw; go_simp; try (with_reducible rfl))); (try simp only [Act.put, List.getElem_toArray, List.getElem_cons_succ, List.getElem_cons_zero, List.setIfInBounds_toArray, List.set_cons_zero, List.set_cons_succ])
        refine wpAnyH_done (by kernel_rfl) ?_ _
        go_wp2_with fail
        go_meet
        exact ⟨HO9.out, hHeld⟩
    · go_simp; have HS := Lib.hid (src_new n hHeld); refine hK.out _ _ (hHeld.alloc (Below.size hHeld) _) (fun hHeld2 => ?_); (clear hHeld; rename _ => hHeld; clear hK K); (try simp only [Act.put, List.getElem_toArray, List.getElem_cons_succ, List.getElem_cons_zero, List.setIfInBounds_toArray, List.set_cons_zero, List.set_cons_succ])
      refine wpAnyH_ready (rs := [1]) (by kernel_rfl) (by simp) ?_; refine AllReadyH.cons rfl (fun K hK => ?_) AllReadyH.nil
      go_simp; (go_at_call 116; refine (l02Sine_any _ _ _ _ _ H0.out H1.out).mono ?_; rintro en wn ⟨rfl, hb⟩); have HS := Lib.hid (HS.out.mono hb); refine hK.out _ _ (below_after hb hHeld) (fun hHeld2 => ?_); clear hb; (clear hHeld; rename _ => hHeld; clear hK K); (try simp only [Act.put, List.getElem_toArray, List.getElem_cons_succ, List.getElem_cons_zero, List.setIfInBounds_toArray, List.set_cons_zero, List.set_cons_succ])
      refine wpAnyH_ready (rs := [3]) (by kernel_rfl) (by simp) ?_; refine AllReadyH.cons rfl (fun K hK => ?_) AllReadyH.nil
      go_simp; (go_at_call 115; refine (l02Cosine_any _ _ _ _ _ HCx.out).mono ?_; rintro en wn ⟨rfl, hb⟩); have HS := Lib.hid (HS.out.mono hb); refine hK.out _ _ (below_after hb hHeld) (fun hHeld2 => ?_); clear hb; (clear hHeld; rename _ => hHeld; clear hK K); (try simp only [Act.put, List.getElem_toArray, List.getElem_cons_succ, List.getElem_cons_zero, List.setIfInBounds_toArray, List.set_cons_zero, List.set_cons_succ])
      refine wpAnyH_ready (rs := [4]) (by kernel_rfl) (by simp) ?_; refine AllReadyH.cons rfl (fun K hK => ?_) AllReadyH.nil
      go_simp; (go_at_call 124; refine (HLx.out _).mono ?_; rintro en wn ⟨v, rfl, ho, hb⟩); have HO := Lib.hid (own_monoB ho (Below.size hHeld)); clear ho; have HS := Lib.hid (HS.out.mono hb); refine hK.out _ _ (below_after hb hHeld) (fun hHeld2 => ?_); clear hb; (clear hHeld; rename _ => hHeld; clear hK K); (try simp only [Act.put, List.getElem_toArray, List.getElem_cons_succ, List.getElem_cons_zero, List.setIfInBounds_toArray, List.set_cons_zero, List.set_cons_succ])
      refine wpAnyH_ready (rs := [7]) (by kernel_rfl) (by simp) ?_; refine AllReadyH.cons rfl (fun K hK => ?_) AllReadyH.nil
      refine wp_append_src wB.heap.size (.tmp 31) (.tmp 33) rfl HO.out HS.out (Below.size hHeld) rfl rfl (by have := HNx.out; simp only [List.length_cons, List.length_nil]; omega) ?_
      intro v' w' ho hg
      have hbw : Below wB.heap.size wB w' := hHeld.grown hg (Below.size hHeld) (fun k hk => (World.ownsRow.lt HO.out k hk).1)
      have HO9 := Lib.hid ho
      clear ho hg
      refine hK.out _ _ hbw (fun hHeld2 => ?_)
      clear hbw
      (clear hHeld; rename _ => hHeld; clear hK K)
      (try simp only [Act.put, List.getElem_toArray, List.getElem_cons_succ, List.getElem_cons_zero, List.setIfInBounds_toArray, List.set_cons_zero, List.set_cons_succ])
      (refine wpAnyH_take (i := 8) (v := ?_) rfl (by kernel_rfl) (by kernel_rfl) (by kernel_rfl) (fun _ _ _ h => h) (Or.inl ⟨rfl, ?_⟩) (by assumption) ?_; rotate_left; focus (intro W hSw; (try dsimp only at hSw); obtain ⟨x0, x1, x2, x3, y0, y1, y2, y3, xz⟩ := HX.out _ hSw; go_simp; try (with_reducible rfl))); (try simp only [Act.put, List.getElem_toArray, List.getElem_cons_succ, List.getElem_cons_zero, List.setIfInBounds_toArray, List.set_cons_zero, List.set_cons_succ])
      refine wpAnyH_done (by kernel_rfl) ?_ _
      go_wp2_with fail
      go_meet
      exact ⟨HO9.out, hHeld⟩
  case rest =>
    obtain ⟨o9, hb9⟩ := hcut
    have HO9 := Lib.hid (OwnI.below o9 (Below.drew (Below.refl _ _)))
    clear o9
    go_upto_region 7 with fail
    refine wp_region_held_drew (S := fun W => Below wB.heap.size wB W) (by kernel_rfl) ?_ (fun hHeld => ?_); focus ((try dsimp only); (repeat' (first | (with_reducible exact Below.refl _ _) | (with_reducible refine Below.alloc ?_ ?_ _) | (with_reducible refine Below.setCell ?_ ?_ _) | (with_reducible refine Below.drew ?_) | (with_reducible refine below_drewN ?_ _) | (with_reducible assumption) | (with_reducible refine below_after (by with_reducible assumption) ?_) | go_size)))
    clear hb9
    (refine wpAnyH_take (i := 0) (v := ?_) rfl (by kernel_rfl) (by kernel_rfl) (by kernel_rfl) (fun _ _ _ h => h) (Or.inl ⟨rfl, ?_⟩) (by assumption) ?_; rotate_left; focus (intro W hSw; (try dsimp only at hSw); obtain ⟨x0, x1, x2, x3, y0, y1, y2, y3, xz⟩ := HX.out _ hSw; go_simp; try (with_reducible rfl))); (try simp only [Act.put, List.getElem_toArray, List.getElem_cons_succ, List.getElem_cons_zero, List.setIfInBounds_toArray, List.set_cons_zero, List.set_cons_succ])
    (refine wpAnyH_take (i := 1) (v := ?_) rfl (by kernel_rfl) (by kernel_rfl) (by kernel_rfl) (fun _ _ _ h => h) (Or.inl ⟨rfl, ?_⟩) (by assumption) ?_; rotate_left; focus (intro W hSw; (try dsimp only at hSw); obtain ⟨x0, x1, x2, x3, y0, y1, y2, y3, xz⟩ := HX.out _ hSw; go_simp; try (with_reducible rfl))); (try simp only [Act.put, List.getElem_toArray, List.getElem_cons_succ, List.getElem_cons_zero, List.setIfInBounds_toArray, List.set_cons_zero, List.set_cons_succ])
    (refine wpAnyH_take (i := 3) (v := ?_) rfl (by kernel_rfl) (by kernel_rfl) (by kernel_rfl) (fun _ _ _ h => h) (Or.inl ⟨rfl, ?_⟩) (by assumption) ?_; rotate_left; focus (intro W hSw; (try dsimp only at hSw); obtain ⟨x0, x1, x2, x3, y0, y1, y2, y3, xz⟩ := HX.out _ hSw; go_simp; try (with_reducible rfl))); (try simp only [Act.put, List.getElem_toArray, List.getElem_cons_succ, List.getElem_cons_zero, List.setIfInBounds_toArray, List.set_cons_zero, List.set_cons_succ])
    refine wpAnyH_ready (rs := [2]) (by kernel_rfl) (by simp) ?_; refine AllReadyH.cons rfl (fun K hK => ?_) AllReadyH.nil
    go_simp; (go_at_call 116; refine (l02Sine_any _ _ _ _ _ H2.out H3.out).mono ?_; rintro en wn ⟨rfl, hb⟩); have HO9 := Lib.hid (OwnI.below HO9.out hb); refine hK.out _ _ (below_after hb hHeld) (fun hHeld2 => ?_); clear hb; (clear hHeld; rename _ => hHeld; clear hK K); (try simp only [Act.put, List.getElem_toArray, List.getElem_cons_succ, List.getElem_cons_zero, List.setIfInBounds_toArray, List.set_cons_zero, List.set_cons_succ])
    refine wpAnyH_ready (rs := [4]) (by kernel_rfl) (by simp) ?_; refine AllReadyH.cons rfl (fun K hK => ?_) AllReadyH.nil
    go_simp; (go_at_call 115; refine (l02Cosine_any _ _ _ _ _ HCy.out).mono ?_; rintro en wn ⟨rfl, hb⟩); have HO9 := Lib.hid (OwnI.below HO9.out hb); refine hK.out _ _ (below_after hb hHeld) (fun hHeld2 => ?_); clear hb; (clear hHeld; rename _ => hHeld; clear hK K); (try simp only [Act.put, List.getElem_toArray, List.getElem_cons_succ, List.getElem_cons_zero, List.setIfInBounds_toArray, List.set_cons_zero, List.set_cons_succ])
    refine wpAnyH_ready (rs := [5]) (by kernel_rfl) (by simp) ?_; refine AllReadyH.cons rfl (fun K hK => ?_) AllReadyH.nil
    go_simp; (go_at_call 124; refine (HLy.out _).mono ?_; rintro en wn ⟨v, rfl, ho, hb⟩); obtain ⟨av, cv, rfl, fv⟩ := own_view ho; obtain ⟨gv, rfl, _⟩ := fv HPy.out; have HS := Lib.hid (Src.of_own ho HPy.out); clear ho; have HO9 := Lib.hid (OwnI.below HO9.out hb); refine hK.out _ _ (below_after hb hHeld) (fun hHeld2 => ?_); clear hb; (clear hHeld; rename _ => hHeld; clear hK K); (try simp only [Act.put, List.getElem_toArray, List.getElem_cons_succ, List.getElem_cons_zero, List.setIfInBounds_toArray, List.set_cons_zero, List.set_cons_succ])
    refine wpAnyH_ready (rs := [6]) (by kernel_rfl) (by simp) ?_; refine AllReadyH.cons rfl (fun K hK => ?_) AllReadyH.nil
    refine wp_append_src wB.heap.size (.tmp 35) (.tmp 40) rfl HO9.out HS.out (Below.size hHeld) rfl rfl (by have := HNx.out; have := HNy.out; simp only [List.length_append, List.length_cons, List.length_nil]; omega) ?_
    intro v' w' ho hg
    have hbw : Below wB.heap.size wB w' := hHeld.grown hg (Below.size hHeld) (fun k hk => (World.ownsRow.lt HO9.out k hk).1)
    have ho : OwnI wB.heap.size w' v' (smL a b c d e f g h n) := ho
    obtain ⟨a7, c7, rfl, _⟩ := own_view ho
    obtain ⟨N, hN⟩ : ∃ N, (smL a b c d e f g h n).length = N := ⟨_, rfl⟩
    rw [hN] at ho ⊢
    have HO7 := Lib.hid ho
    have HN7 := Lib.hid hN
    clear ho hg hN HO9
    refine hK.out _ _ hbw (fun hHeld2 => ?_)
    clear hbw
    (clear hHeld; rename _ => hHeld; clear hK K)
    (try simp only [Act.put, List.getElem_toArray, List.getElem_cons_succ, List.getElem_cons_zero, List.setIfInBounds_toArray, List.set_cons_zero, List.set_cons_succ])
    (refine wpAnyH_take (i := 7) (v := ?_) rfl (by kernel_rfl) (by kernel_rfl) (by kernel_rfl) (fun _ _ _ h => h) (Or.inl ⟨rfl, ?_⟩) (by assumption) ?_; rotate_left; focus (intro W hSw; (try dsimp only at hSw); obtain ⟨x0, x1, x2, x3, y0, y1, y2, y3, xz⟩ := HX.out _ hSw; go_simp; try (with_reducible rfl))); (try simp only [Act.put, List.getElem_toArray, List.getElem_cons_succ, List.getElem_cons_zero, List.setIfInBounds_toArray, List.set_cons_zero, List.set_cons_succ])
    refine wpAnyH_done (by kernel_rfl) ?_ _
    have h2 := after_call2 hHeld hcl hfr hlt (Below.refl _ _)
    have hsz7 := Below.size hHeld
    have HB7 : Hid (Below w.heap.size w w') := below_after hHeld HB0.out
    clear hcl hfr hlt
    obtain ⟨hcl, hfr, hlt⟩ := h2
    clear hHeld HX HS
    have hN1 : (smL a b c d e f g h n).length = N := HN7.out
    have hNx := HNx.out
    have hNy := HNy.out
    have hlX := HlX.out
    have hPx := HPx.out
    have hPy := HPy.out
    have hBc := HBc.out
    have hLe := HLe.out
    by_cases h60 : 60 < N
    · have HV : Hid (smV a b c d e f g h n = .tuple #[.agg #[.int .i64 0, .int .i64 0, .int .i64 0, .int .i64 0], .int .i64 3]) := by
        show smV a b c d e f g h n = _
        rw [if_pos (by rw [hN1]; exact h60)] at hBc
        exact smV_err hBc (by decide)
      have h60i : (60 : Int) < (N : Int) := by omega
      clear hN1 hNx hNy hlX hPx hPy hBc hLe h60
      go_wp2
      refine bodyPost_ret (v := .tuple #[.agg #[.int .i64 0, .int .i64 0, .int .i64 0, .int .i64 0], .int .i64 3]) (by simp (maxDischargeDepth := 8) [results, Try.results70, go_sem, *]) rfl ?_
      have hb7 := HB7.out
      exact ⟨by rw [HV.out], by (repeat' (first | (with_reducible exact Below.refl _ _) | (with_reducible refine Below.alloc ?_ ?_ _) | (with_reducible refine Below.setCell ?_ ?_ _) | (with_reducible refine Below.drew ?_) | (with_reducible refine below_drewN ?_ _) | (with_reducible assumption) | (with_reducible refine below_after (by with_reducible assumption) ?_) | go_size))⟩
    rw [if_neg (by rw [hN1]; exact h60)] at hBc
    have h60i : decide ((60 : Int) < (N : Int)) = false := by simp; omega
    have hL1 : 1 ≤ (smL a b c d e f g h n).length := by omega
    have hL2 : (smL a b c d e f g h n).length ≤ 1048576 := by omega
    have HLc : Hid (∀ B v w, OwnI B w v (smL a b c d e f g h n) → Calls Try.prog 129 #[v] w fun en w' => en = .returned (colV (smL a b c d e f g h n)) ∧ Below w.heap.size w w') := fun B v w hh => l02OfList_any B v _ w hh hL1 hL2 hLe
    cases hok : okF (smL a b c d e f g h n)
    · rw [colC_limit hok] at hBc
      have HV := Lib.hid (smV_err hBc (by decide))
      have hcv : colV (smL a b c d e f g h n) = .tuple #[.agg #[.int .i64 0, .int .i64 0, .int .i64 0, .int .i64 0], .int .i64 3] := by unfold colV; rw [colC_limit hok]; rfl
      rw [hcv] at HLc
      clear hcv hN1 hNx hNy hlX hPx hPy hBc hLe h60 hL1 hL2 hok
      go_wp2_with (first | (go_at_call 129; refine (HLc.out _ _ _ HO7.out).mono ?_; rintro en wn ⟨rfl, hb⟩; first | (have h2 := after_call2 hb hcl hfr hlt (by ((repeat' (first | (with_reducible exact Below.refl _ _) | (with_reducible refine Below.alloc ?_ ?_ _) | (with_reducible refine Below.setCell ?_ ?_ _) | (with_reducible refine Below.drew ?_) | (with_reducible refine below_drewN ?_ _) | (with_reducible assumption) | (with_reducible refine below_after (by with_reducible assumption) ?_) | go_size)); done)); obtain ⟨hclx, hfrx, hltx, hsz⟩ := after_call hb; (try simp only [World.size_alloc, World.size_setCell, World.size_drew] at hclx hfrx hltx hsz); (try (have hszl := Nat.lt_of_succ_le hsz)); obtain ⟨hcl, hfr, hlt⟩ := h2) | (obtain ⟨hcl, hfr, hlt, hsz⟩ := after_call hb; (try simp only [World.size_alloc, World.size_setCell, World.size_drew] at hcl hfr hlt hsz))))
      refine bodyPost_ret (v := .tuple #[.agg #[.int .i64 0, .int .i64 0, .int .i64 0, .int .i64 0], .int .i64 3]) (by simp (maxDischargeDepth := 8) [results, Try.results70, go_sem, *]) rfl ?_
      have hb7 := HB7.out
      exact ⟨by rw [HV.out], by (repeat' (first | (with_reducible exact Below.refl _ _) | (with_reducible refine Below.alloc ?_ ?_ _) | (with_reducible refine Below.setCell ?_ ?_ _) | (with_reducible refine Below.drew ?_) | (with_reducible refine below_drewN ?_ _) | (with_reducible assumption) | (with_reducible refine below_after (by with_reducible assumption) ?_) | go_size))⟩
    by_cases h0 : (ff (smL a b c d e f g h n)).1 = 0
    · rw [colC_state hok h0] at hBc
      have HV := Lib.hid (smV_err hBc (by decide))
      have hcv : colV (smL a b c d e f g h n) = .tuple #[.agg #[.int .i64 0, .int .i64 0, .int .i64 0, .int .i64 0], .int .i64 5] := by unfold colV; rw [colC_state hok h0]; rfl
      rw [hcv] at HLc
      clear hcv hN1 hNx hNy hlX hPx hPy hBc hLe h60 hL1 hL2 hok h0
      go_wp2_with (first | (go_at_call 129; refine (HLc.out _ _ _ HO7.out).mono ?_; rintro en wn ⟨rfl, hb⟩; first | (have h2 := after_call2 hb hcl hfr hlt (by ((repeat' (first | (with_reducible exact Below.refl _ _) | (with_reducible refine Below.alloc ?_ ?_ _) | (with_reducible refine Below.setCell ?_ ?_ _) | (with_reducible refine Below.drew ?_) | (with_reducible refine below_drewN ?_ _) | (with_reducible assumption) | (with_reducible refine below_after (by with_reducible assumption) ?_) | go_size)); done)); obtain ⟨hclx, hfrx, hltx, hsz⟩ := after_call hb; (try simp only [World.size_alloc, World.size_setCell, World.size_drew] at hclx hfrx hltx hsz); (try (have hszl := Nat.lt_of_succ_le hsz)); obtain ⟨hcl, hfr, hlt⟩ := h2) | (obtain ⟨hcl, hfr, hlt, hsz⟩ := after_call hb; (try simp only [World.size_alloc, World.size_setCell, World.size_drew] at hcl hfr hlt hsz))))
      refine bodyPost_ret (v := .tuple #[.agg #[.int .i64 0, .int .i64 0, .int .i64 0, .int .i64 0], .int .i64 5]) (by simp (maxDischargeDepth := 8) [results, Try.results70, go_sem, *]) rfl ?_
      have hb7 := HB7.out
      exact ⟨by rw [HV.out], by (repeat' (first | (with_reducible exact Below.refl _ _) | (with_reducible refine Below.alloc ?_ ?_ _) | (with_reducible refine Below.setCell ?_ ?_ _) | (with_reducible refine Below.drew ?_) | (with_reducible refine below_drewN ?_ _) | (with_reducible assumption) | (with_reducible refine below_after (by with_reducible assumption) ?_) | go_size))⟩
    · rw [colC_yes hok h0] at hBc
      have HV := Lib.hid (smV_ok hBc)
      have hcv : colV (smL a b c d e f g h n) = .tuple #[.agg #[.int .i64 1, .int .i64 0, .int .i64 (ff (smL a b c d e f g h n)).2, .int .i64 (ff (smL a b c d e f g h n)).1], .int .i64 0] := by unfold colV; rw [colC_yes hok h0]; rfl
      rw [hcv] at HLc
      have HCf := Lib.hid (isCr_ff hok h0)
      obtain ⟨q0, q1, _⟩ := isCr_parts HCf.out
      have HQ0 := Lib.hid q0
      have HQ1 := Lib.hid q1
      have hXX : smX a b c d e f g h n = cosI 1 0 (ff (smL a b c d e f g h n)).2 (ff (smL a b c d e f g h n)).1 := rfl
      have hYY : smY a b c d e f g h n = sinI 1 0 (ff (smL a b c d e f g h n)).2 (ff (smL a b c d e f g h n)).1 := rfl
      rw [hXX, hYY] at HV
      generalize (ff (smL a b c d e f g h n)).1 = P at *
      generalize (ff (smL a b c d e f g h n)).2 = Q0 at *
      clear hcv q0 q1 hXX hYY hN1 hNx hNy hlX hPx hPy hBc hLe h60 hL1 hL2 hok h0
      go_wp2_with (first | (go_at_call 129; refine (HLc.out _ _ _ HO7.out).mono ?_; rintro en wE ⟨rfl, hb⟩; first | (have h2 := after_call2 hb hcl hfr hlt (by ((repeat' (first | (with_reducible exact Below.refl _ _) | (with_reducible refine Below.alloc ?_ ?_ _) | (with_reducible refine Below.setCell ?_ ?_ _) | (with_reducible refine Below.drew ?_) | (with_reducible refine below_drewN ?_ _) | (with_reducible assumption) | (with_reducible refine below_after (by with_reducible assumption) ?_) | go_size)); done)); obtain ⟨hclx, hfrx, hltx, hsz⟩ := after_call hb; (try simp only [World.size_alloc, World.size_setCell, World.size_drew] at hclx hfrx hltx hsz); (try (have hszl := Nat.lt_of_succ_le hsz)); obtain ⟨hcl, hfr, hlt⟩ := h2) | (obtain ⟨hcl, hfr, hlt, hsz⟩ := after_call hb; (try simp only [World.size_alloc, World.size_setCell, World.size_drew] at hcl hfr hlt hsz))))
      refine wp_region_held_drew (S := fun W => W.cell? ⟨wE.heap.size, 0, none⟩ = some (.int .i64 1) ∧ W.cell? ⟨wE.heap.size, 1, none⟩ = some (.int .i64 0) ∧ W.cell? ⟨wE.heap.size, 2, none⟩ = some (.int .i64 Q0) ∧ W.cell? ⟨wE.heap.size, 3, none⟩ = some (.int .i64 P) ∧ wE.heap.size < W.heap.size) (by kernel_rfl) ?_ (fun hHeld => ?_); focus ((try dsimp only); (first | (go_keep; done) | ((repeat' apply And.intro) <;> first | (go_keep; done) | (go_cell; done) | (refine (Below.cell (B := w.heap.size + 1) ?_ ?_).trans ?_; focus (repeat' (first | (with_reducible refine Below.alloc ?_ ?_ _) | (with_reducible refine Below.setCell ?_ ?_ _) | (with_reducible refine Below.drew ?_) | (with_reducible exact Below.refl _ _) | (first | omega | (simp only [World.size_alloc, World.size_drew, World.size_setCell]; omega) | (simp; omega)))); focus (first | omega | (simp only [World.size_alloc, World.size_drew, World.size_setCell]; omega) | (simp; omega)); first | (go_keep; done) | ((refine (Below.cell (by with_reducible assumption) ?_).trans ?_) <;> first | (go_keep; done) | (first | omega | (simp only [World.size_alloc, World.size_drew, World.size_setCell]; omega) | (simp; omega)))) | ((refine (Below.cell (by with_reducible assumption) ?_).trans ?_) <;> first | (go_keep; done) | (simp only [World.size_alloc, World.size_drew, World.size_setCell]; omega) | omega) | (simp only [World.size_alloc, World.size_drew, World.size_setCell]; omega) | omega)))
      (refine wpAnyH_take (i := 0) (v := ?_) rfl (by kernel_rfl) (by kernel_rfl) (by kernel_rfl) (fun _ _ _ h => h) (Or.inl ⟨rfl, ?_⟩) (by assumption) ?_; rotate_left; focus (intro w hSw; (try dsimp only at hSw); go_simp; try (with_reducible rfl))); (try simp only [Act.put, List.getElem_toArray, List.getElem_cons_succ, List.getElem_cons_zero, List.setIfInBounds_toArray, List.set_cons_zero, List.set_cons_succ])
      (refine wpAnyH_take (i := 2) (v := ?_) rfl (by kernel_rfl) (by kernel_rfl) (by kernel_rfl) (fun _ _ _ h => h) (Or.inl ⟨rfl, ?_⟩) (by assumption) ?_; rotate_left; focus (intro w hSw; (try dsimp only at hSw); go_simp; try (with_reducible rfl))); (try simp only [Act.put, List.getElem_toArray, List.getElem_cons_succ, List.getElem_cons_zero, List.setIfInBounds_toArray, List.set_cons_zero, List.set_cons_succ])
      (refine wpAnyH_ready (rs := [1]) (by kernel_rfl) (by simp) ?_; refine AllReadyH.cons rfl (fun K hK => ?_) AllReadyH.nil; go_simp; (go_at_call 116; refine (l02Sine_any _ _ _ _ _ HQ0.out HQ1.out).mono ?_; rintro e wn ⟨rfl, hb⟩; first | (have h2 := after_call2 hb hcl hfr hlt (by ((repeat' (first | (with_reducible exact Below.refl _ _) | (with_reducible refine Below.alloc ?_ ?_ _) | (with_reducible refine Below.setCell ?_ ?_ _) | (with_reducible refine Below.drew ?_) | (with_reducible refine below_drewN ?_ _) | (with_reducible assumption) | (with_reducible refine below_after (by with_reducible assumption) ?_) | go_size)); done)); obtain ⟨hclx, hfrx, hltx, hsz⟩ := after_call hb; (try simp only [World.size_alloc, World.size_setCell, World.size_drew] at hclx hfrx hltx hsz); (try (have hszl := Nat.lt_of_succ_le hsz)); obtain ⟨hcl, hfr, hlt⟩ := h2) | (obtain ⟨hcl, hfr, hlt, hsz⟩ := after_call hb; (try simp only [World.size_alloc, World.size_setCell, World.size_drew] at hcl hfr hlt hsz))); refine hK.out _ _ ?_ (fun hHeld2 => ?_); focus ((try dsimp only); (first | (go_keep; done) | ((repeat' apply And.intro) <;> first | (go_keep; done) | (go_cell; done) | (refine (Below.cell (B := w.heap.size + 1) ?_ ?_).trans ?_; focus (repeat' (first | (with_reducible refine Below.alloc ?_ ?_ _) | (with_reducible refine Below.setCell ?_ ?_ _) | (with_reducible refine Below.drew ?_) | (with_reducible exact Below.refl _ _) | (first | omega | (simp only [World.size_alloc, World.size_drew, World.size_setCell]; omega) | (simp; omega)))); focus (first | omega | (simp only [World.size_alloc, World.size_drew, World.size_setCell]; omega) | (simp; omega)); first | (go_keep; done) | ((refine (Below.cell (by with_reducible assumption) ?_).trans ?_) <;> first | (go_keep; done) | (first | omega | (simp only [World.size_alloc, World.size_drew, World.size_setCell]; omega) | (simp; omega)))) | ((refine (Below.cell (by with_reducible assumption) ?_).trans ?_) <;> first | (go_keep; done) | (simp only [World.size_alloc, World.size_drew, World.size_setCell]; omega) | omega) | (simp only [World.size_alloc, World.size_drew, World.size_setCell]; omega) | omega)))); (clear hHeld; rename _ => hHeld; clear hK K); (try simp only [Act.put, List.getElem_toArray, List.getElem_cons_succ, List.getElem_cons_zero, List.setIfInBounds_toArray, List.set_cons_zero, List.set_cons_succ])
      (refine wpAnyH_ready (rs := [3]) (by kernel_rfl) (by simp) ?_; refine AllReadyH.cons rfl (fun K hK => ?_) AllReadyH.nil; go_simp; (go_at_call 115; refine (l02Cosine_any _ _ _ _ _ HCf.out).mono ?_; rintro e wn ⟨rfl, hb⟩; first | (have h2 := after_call2 hb hcl hfr hlt (by ((repeat' (first | (with_reducible exact Below.refl _ _) | (with_reducible refine Below.alloc ?_ ?_ _) | (with_reducible refine Below.setCell ?_ ?_ _) | (with_reducible refine Below.drew ?_) | (with_reducible refine below_drewN ?_ _) | (with_reducible assumption) | (with_reducible refine below_after (by with_reducible assumption) ?_) | go_size)); done)); obtain ⟨hclx, hfrx, hltx, hsz⟩ := after_call hb; (try simp only [World.size_alloc, World.size_setCell, World.size_drew] at hclx hfrx hltx hsz); (try (have hszl := Nat.lt_of_succ_le hsz)); obtain ⟨hcl, hfr, hlt⟩ := h2) | (obtain ⟨hcl, hfr, hlt, hsz⟩ := after_call hb; (try simp only [World.size_alloc, World.size_setCell, World.size_drew] at hcl hfr hlt hsz))); refine hK.out _ _ ?_ (fun hHeld2 => ?_); focus ((try dsimp only); (first | (go_keep; done) | ((repeat' apply And.intro) <;> first | (go_keep; done) | (go_cell; done) | (refine (Below.cell (B := w.heap.size + 1) ?_ ?_).trans ?_; focus (repeat' (first | (with_reducible refine Below.alloc ?_ ?_ _) | (with_reducible refine Below.setCell ?_ ?_ _) | (with_reducible refine Below.drew ?_) | (with_reducible exact Below.refl _ _) | (first | omega | (simp only [World.size_alloc, World.size_drew, World.size_setCell]; omega) | (simp; omega)))); focus (first | omega | (simp only [World.size_alloc, World.size_drew, World.size_setCell]; omega) | (simp; omega)); first | (go_keep; done) | ((refine (Below.cell (by with_reducible assumption) ?_).trans ?_) <;> first | (go_keep; done) | (first | omega | (simp only [World.size_alloc, World.size_drew, World.size_setCell]; omega) | (simp; omega)))) | ((refine (Below.cell (by with_reducible assumption) ?_).trans ?_) <;> first | (go_keep; done) | (simp only [World.size_alloc, World.size_drew, World.size_setCell]; omega) | omega) | (simp only [World.size_alloc, World.size_drew, World.size_setCell]; omega) | omega)))); (clear hHeld; rename _ => hHeld; clear hK K); (try simp only [Act.put, List.getElem_toArray, List.getElem_cons_succ, List.getElem_cons_zero, List.setIfInBounds_toArray, List.set_cons_zero, List.set_cons_succ])
      (refine wpAnyH_ready (rs := [4]) (by kernel_rfl) (by simp) ?_; refine AllReadyH.cons rfl (fun K hK => ?_) AllReadyH.nil; go_simp; (go_at_call 125; refine (l02Normal_any _ _ _).mono ?_; rintro e wn ⟨rfl, hb⟩; first | (have h2 := after_call2 hb hcl hfr hlt (by ((repeat' (first | (with_reducible exact Below.refl _ _) | (with_reducible refine Below.alloc ?_ ?_ _) | (with_reducible refine Below.setCell ?_ ?_ _) | (with_reducible refine Below.drew ?_) | (with_reducible refine below_drewN ?_ _) | (with_reducible assumption) | (with_reducible refine below_after (by with_reducible assumption) ?_) | go_size)); done)); obtain ⟨hclx, hfrx, hltx, hsz⟩ := after_call hb; (try simp only [World.size_alloc, World.size_setCell, World.size_drew] at hclx hfrx hltx hsz); (try (have hszl := Nat.lt_of_succ_le hsz)); obtain ⟨hcl, hfr, hlt⟩ := h2) | (obtain ⟨hcl, hfr, hlt, hsz⟩ := after_call hb; (try simp only [World.size_alloc, World.size_setCell, World.size_drew] at hcl hfr hlt hsz))); refine hK.out _ _ ?_ (fun hHeld2 => ?_); focus ((try dsimp only); (first | (go_keep; done) | ((repeat' apply And.intro) <;> first | (go_keep; done) | (go_cell; done) | (refine (Below.cell (B := w.heap.size + 1) ?_ ?_).trans ?_; focus (repeat' (first | (with_reducible refine Below.alloc ?_ ?_ _) | (with_reducible refine Below.setCell ?_ ?_ _) | (with_reducible refine Below.drew ?_) | (with_reducible exact Below.refl _ _) | (first | omega | (simp only [World.size_alloc, World.size_drew, World.size_setCell]; omega) | (simp; omega)))); focus (first | omega | (simp only [World.size_alloc, World.size_drew, World.size_setCell]; omega) | (simp; omega)); first | (go_keep; done) | ((refine (Below.cell (by with_reducible assumption) ?_).trans ?_) <;> first | (go_keep; done) | (first | omega | (simp only [World.size_alloc, World.size_drew, World.size_setCell]; omega) | (simp; omega)))) | ((refine (Below.cell (by with_reducible assumption) ?_).trans ?_) <;> first | (go_keep; done) | (simp only [World.size_alloc, World.size_drew, World.size_setCell]; omega) | omega) | (simp only [World.size_alloc, World.size_drew, World.size_setCell]; omega) | omega)))); (clear hHeld; rename _ => hHeld; clear hK K); (try simp only [Act.put, List.getElem_toArray, List.getElem_cons_succ, List.getElem_cons_zero, List.setIfInBounds_toArray, List.set_cons_zero, List.set_cons_succ])
      refine wpAnyH_ready (rs := [5]) (by kernel_rfl) (by simp) ?_; refine AllReadyH.cons rfl (fun K hK => ?_) AllReadyH.nil
      go_simp
      (refine hK.out _ _ ?_ (fun hHeld2 => ?_); focus ((try dsimp only); (first | (go_keep; done) | ((repeat' apply And.intro) <;> first | (go_keep; done) | (go_cell; done) | (refine (Below.cell (B := w.heap.size + 1) ?_ ?_).trans ?_; focus (repeat' (first | (with_reducible refine Below.alloc ?_ ?_ _) | (with_reducible refine Below.setCell ?_ ?_ _) | (with_reducible refine Below.drew ?_) | (with_reducible exact Below.refl _ _) | (first | omega | (simp only [World.size_alloc, World.size_drew, World.size_setCell]; omega) | (simp; omega)))); focus (first | omega | (simp only [World.size_alloc, World.size_drew, World.size_setCell]; omega) | (simp; omega)); first | (go_keep; done) | ((refine (Below.cell (by with_reducible assumption) ?_).trans ?_) <;> first | (go_keep; done) | (first | omega | (simp only [World.size_alloc, World.size_drew, World.size_setCell]; omega) | (simp; omega)))) | ((refine (Below.cell (by with_reducible assumption) ?_).trans ?_) <;> first | (go_keep; done) | (simp only [World.size_alloc, World.size_drew, World.size_setCell]; omega) | omega) | (simp only [World.size_alloc, World.size_drew, World.size_setCell]; omega) | omega)))); (clear hHeld; rename _ => hHeld; clear hK K); (try simp only [Act.put, List.getElem_toArray, List.getElem_cons_succ, List.getElem_cons_zero, List.setIfInBounds_toArray, List.set_cons_zero, List.set_cons_succ])
      (refine wpAnyH_take (i := 6) (v := ?_) rfl (by kernel_rfl) (by kernel_rfl) (by kernel_rfl) (fun _ _ _ h => h) (Or.inl ⟨rfl, ?_⟩) (by assumption) ?_; rotate_left; focus (intro w hSw; (try dsimp only at hSw); go_simp; try (with_reducible rfl))); (try simp only [Act.put, List.getElem_toArray, List.getElem_cons_succ, List.getElem_cons_zero, List.setIfInBounds_toArray, List.set_cons_zero, List.set_cons_succ])
      refine wpAnyH_done (by kernel_rfl) ?_ _
      go_wp2
      refine bodyPost_ret (v := .tuple #[.agg #[.int .i64 1, .int .i64 0, .int .i64 (cosI 1 0 Q0 P), .int .i64 (sinI 1 0 Q0 P)], .int .i64 0]) (by simp (maxDischargeDepth := 8) [results, Try.results70, go_sem, *]) rfl ?_
      have hb7 := HB7.out
      exact ⟨by rw [HV.out], by (repeat' (first | (with_reducible exact Below.refl _ _) | (with_reducible refine Below.alloc ?_ ?_ _) | (with_reducible refine Below.setCell ?_ ?_ _) | (with_reducible refine Below.drew ?_) | (with_reducible refine below_drewN ?_ _) | (with_reducible assumption) | (with_reducible refine below_after (by with_reducible assumption) ?_) | go_size))⟩
end Go.Proofs.Ytoenlpkphekbnaa
