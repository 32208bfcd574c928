/-
  Contracts of chapter 2's long expansions, in the model (own work).
-/
import Derived.Test.YtoenlpkphekbnaaSeq
import Derived.Test.YtoenlpkphekbnaaCvM
namespace Go.Proofs.Ytoenlpkphekbnaa
open Go.ChangeShapes Go.WideShapes Go.ChangeAt Go.RowKit
set_option linter.unusedVariables false
set_option maxRecDepth 100000
set_option linter.unusedSimpArgs false

theorem expI_ne {p q : Int} (h : 1 ≤ q) : 1 ≤ (expI p q).length := by rw [expI_step p q h]; simp
/-- The long expansion out of the expansion. -/
def lng (xs : List Int) : List Int := if xs.length % 2 = 1 then xs else xs.dropLast ++ [xs.getD (xs.length - 1) 0 - 1, 1]
theorem leN_lng : ∀ (f : Nat) (p q : Int) (o : Bool), 1 ≤ q → q.toNat ≤ f → leN f p q o = if ((expI p q).length % 2 = 1 ↔ o = true) then expI p q else (expI p q).dropLast ++ [(expI p q).getD ((expI p q).length - 1) 0 - 1, 1]
  | 0, p, q, o, h, hf => by omega
  | f + 1, p, q, o, h, hf => by
    rw [expI_step p q h]
    by_cases hz : p % q = 0
    · rw [leN_end hz, hz, expI_zero]
      cases o <;> simp
    · have m0 := Int.emod_nonneg p (by omega : q ≠ 0)
      have m1 := Int.emod_lt_of_pos p (by omega : 0 < q)
      rw [leN_go hz, leN_lng f q (p % q) (!o) (by omega) (by omega)]
      have hne := expI_ne (p := q) (q := p % q) (by omega)
      generalize expI q (p % q) = E at *
      match E, hne with
      | y :: E, _ =>
        have e1 : ((p / q) :: y :: E).dropLast = (p / q) :: (y :: E).dropLast := rfl
        have e2 : ((p / q) :: y :: E).getD (((p / q) :: y :: E).length - 1) 0 = (y :: E).getD ((y :: E).length - 1) 0 := by simp [List.getD]
        rw [e1, e2]
        have e3 : ((p / q) :: y :: E).length = (y :: E).length + 1 := rfl
        rw [e3]
        generalize (y :: E).getD ((y :: E).length - 1) 0 = L
        generalize (y :: E).length = n
        have hp : ((n + 1) % 2 = 1 ↔ o = true) ↔ (n % 2 = 1 ↔ (!o) = true) := by
          rcases Nat.mod_two_eq_zero_or_one n with h2 | h2 <;> cases o <;> simp [h2] <;> omega
        by_cases hc : (n % 2 = 1 ↔ (!o) = true)
        · rw [if_pos hc, if_pos (hp.2 hc)]
        · rw [if_neg hc, if_neg (fun h => hc (hp.1 h))]; rfl
theorem leN_is {s c : Int} (hc : 1 ≤ c) : leN c.toNat s c true = lng (expI s c) := by
  rw [leN_lng c.toNat s c true hc (Nat.le_refl _)]
  unfold lng
  simp only [iff_true]

theorem own_capB {B : Nat} {w : World} {a : Option Addr} {n cap : Nat} {xs : List Int} (h : OwnI B w (.slice a n cap) xs) : n ≤ cap := by
  rcases h.2 with ⟨h', _⟩ | ⟨g', cap', cur, h', hb, hg, hnc, _⟩
  · simp only [Value.slice.injEq] at h'; omega
  · simp only [Value.slice.injEq] at h'; obtain ⟨_, h1, h2⟩ := h'; omega
theorem wp_append_own {P : Program} {w : World} {o : Oper} {a : Act} {K : Act → World → Prop} {Q : Exit → Act → World → Prop} (s x : Operand) (t : TypeId)
    (ho : o.op = .call { callee := .builtin .append, args := #[s, x], argTypes := #[t, t] })
    (base : Nat) (e : TypeId) (i : TypeInfo) (z : Value) (size bytes : Nat) (ht : P.underlying t = some (.slice e)) (hi : P.info? e = some i) (hz : i.zero = some z)
    (hsize : i.size = size) (hby : i.bytes = bytes) (hzs : z.cells.size = size) (hsz : 0 < size)
    (v : Value) (n : Nat) (xs : List Value) (hs : a.eval s = v) (hown : w.ownsRow base e size v n xs)
    (ad : Addr) (m c : Nat) (news : List Value) (hx : a.eval x = .slice (some ad) m c) (hl : news.length = m * size) (hnews : ∀ j u, news[j]? = some u → w.cell? (ad.add j) = some u) (h1 : ∀ u ∈ news, u.oneCell' = true)
    (h63 : n + m ≤ maxLen) (hbytes : (n + m) * bytes ≤ 140737488355328) (hbase : base ≤ w.heap.size)
    (h : ∀ v' w', w'.ownsRow base e size v' (n + m) (xs ++ news) → w.grownBy w' v.ownBlock → K (a.put o.dst v') w') :
    Oper.wp P o a w K Q := by
  obtain ⟨v', w', hr, h2, h3, _, _⟩ := run_append_own_at (P := P) w base t o.type e i z size bytes ht hi hz hsize hby hzs hsz v n xs hown ad m c news hl hnews h1 h63 hbytes hbase
  unfold Oper.wp execOp
  simp only [ho, resolve, invoke, builtin, Sem.run_bind, Sem.run_pure, Result.andThen_ok, List.map_toArray, List.map_cons, List.map_nil, hs, hx, hr]
  exact h v' w' h2 h3
set_option maxHeartbeats 800000 in
theorem l01Own_any (g cap m : Nat) (ys : List Int) (w : World) (hm : ys.length = m) (hmx : m ≤ 1048576) (hg : g < w.heap.size) (hc : ∀ j, j < m → w.cell? ⟨g, j, none⟩ = some (.int .i64 (ys.getD j 0))) :
    Calls Try.prog 140 #[.slice (some ⟨g, 0, none⟩) m cap] w (RetI w ys) := by
  obtain ⟨i0, hi, hz0, hz1, hz2⟩ := info_parts info_int
  have HC := Lib.hid hc
  have HM := Lib.hid hm
  clear hc hm
  go_enter Try.func140, Try.ntmps140
  go_wp2_with (at_builtin; refine wpList_append_own _ rfl _ _ 66 rfl w.heap.size 2 i0 (.int .i64 0) 1 8 Try.underlying66 hi hz0 hz1 hz2 rfl (by decide) _ _ _ rfl (World.ownsRow_made w #[] 0 (Nat.le_refl _) (Nat.zero_le _) rfl) ⟨g, 0, none⟩ m cap (ys.map (Value.int .i64)) rfl ?c0 ?c1 ?c2 ?c3 ?c4 ?c5 ?_)
  case c0 => rw [List.length_map, HM.out]; omega
  case c1 =>
    intro j u hj
    rw [List.getElem?_map] at hj
    cases hy : ys[j]? with
    | none => rw [hy] at hj; cases hj
    | some y =>
      rw [hy] at hj
      cases hj
      have hjm : j < m := by have := (List.getElem?_eq_some_iff.1 hy).1; have := HM.out; omega
      have := HC.out j hjm
      have e : (Addr.add ⟨g, 0, none⟩ j) = ⟨g, j, none⟩ := by unfold Addr.add; split <;> simp_all
      rw [e, World.cell?_alloc_some _ _ _ (by rw [this]; rfl), this]
      simp [List.getD, hy]
  case c2 => intro u hu; simp only [List.mem_map] at hu; obtain ⟨y, _, rfl⟩ := hu; rfl
  case c3 => unfold maxLen; omega
  case c4 => omega
  case c5 => simp
  · intro v' w1 hown' hgrow _
    have HO := Lib.hid hown'
    have HB : Hid (Below w.heap.size w w1) := Below.grown ((Below.refl _ w).alloc (Nat.le_refl _) _) hgrow (by simp) (fun k hk => by simp [Value.ownBlock] at hk; omega)
    clear hown' hgrow
    go_wp2
    go_ret
    refine ⟨v', rfl, ?_, HB.out⟩
    have := HO.out
    show w1.ownsRow w.heap.size 2 1 v' ys.length (ys.map (Value.int .i64))
    rw [HM.out]
    simpa using this
set_option maxHeartbeats 1600000 in
theorem l02Long_any (s c : Int) (w : World) (hs1 : 1 ≤ s) (hs2 : s ≤ 1000000) (hc1 : 1 ≤ c) (hc2 : c ≤ 1000000) :
    Calls Try.prog 124 #[.int .i64 s, .int .i64 c] w (RetI w (lng (expI s c))) := by
  obtain ⟨i0, hi, hz0, hz1, hz2⟩ := info_parts info_int
  have hlen := expI_len s c
  have hne := expI_ne (p := s) (q := c) hc1
  have hel := fun k hk => exp_el k s c hc1 hc2 (by omega) (by omega) hk
  have HE := Lib.hid (l01Expand_any s c w hc1 hc2 (by omega) (by omega))
  generalize expI s c = E at *
  obtain ⟨t, ht⟩ : ∃ t, E.length = t + 1 := ⟨E.length - 1, by omega⟩
  by_cases h2 : E.length % 2 = 1
  · have HL : Hid (lng E = E) := if_pos h2
    have h2i : ((E.length : Int) % 2 == 1) = true := by simp; omega
    have h2j : (E.length : Int) % 2 = 1 := by omega
    clear h2 hel ht
    go_enter Try.func124, Try.ntmps124
    go_wp2_with (first | (go_at_call 139; refine (HE.out).mono ?_; rintro e w1 ⟨v, rfl, ho, hb⟩; obtain ⟨a, cap, rfl, f⟩ := own_view ho; clear f; have HO := Lib.hid ho; have HB := Lib.hid hb; clear ho hb))
    go_ret
    exact ⟨_, rfl, by rw [HL.out]; exact HO.out, HB.out⟩
  · obtain ⟨x, hx⟩ : ∃ x, E.getD t 0 = x := ⟨_, rfl⟩
    have HL : Hid (lng E = E.take t ++ [x - 1, 1]) := by
      show lng E = _
      unfold lng
      rw [if_neg h2, ht, List.dropLast_eq_take, ht]
      simp [← hx]
    have hxb := hel t (by omega)
    rw [hx] at hxb
    obtain ⟨x1, x2, _⟩ := hxb
    have h2i : (((t : Int) + 1) % 2 == 1) = false := by
      cases hq : (((t : Int) + 1) % 2 == 1)
      · rfl
      · simp only [beq_iff_eq] at hq; omega
    have h2j : ¬ ((t : Int) + 1) % 2 = 1 := by omega
    have hx9 : x ≤ 1000000 ∧ -1000000 ≤ x := by omega
    have HT := Lib.hid ht
    have HX := Lib.hid hx
    have HLN := Lib.hid hlen
    have i1 : (0 : Int) ≤ (t : Int) := by omega
    have i2 : (t : Int) < (t : Int) + 1 := by omega
    have i3 : (t : Int) ≤ 1000001 := by omega
    clear h2 hel hne hlen
    go_enter Try.func124, Try.ntmps124
    go_wp2_with (first | (go_at_call 139; refine (HE.out).mono ?_; rintro e w1 ⟨v, rfl, ho, hb⟩; obtain ⟨a, cap, rfl, f⟩ := own_view ho; obtain ⟨g, rfl, hgl, hg, hcc, _⟩ := f (by omega); have hcap := own_capB ho; rw [ht] at hcap; have HO := Lib.hid ho; have HC := Lib.hid hcc; have HB := Lib.hid hb; have hct := hcc t (by omega); rw [hx] at hct; have hcapi : (t : Int) ≤ (cap : Int) := (by omega); rw [ht]; clear f ho hb hcc ht hx))
    have HTL : Hid ((E.take t).length = t) := by show (E.take t).length = t; rw [List.length_take, HT.out]; omega
    have HCT : Hid (∀ W, Below w1.heap.size w1 W → ∀ j, j < t → W.cell? ⟨g, j, none⟩ = some (.int .i64 ((E.take t).getD j 0))) := by
      show ∀ W, Below w1.heap.size w1 W → ∀ j, j < t → W.cell? ⟨g, j, none⟩ = some (.int .i64 ((E.take t).getD j 0))
      intro W hW j hj
      rw [hW.cell (p := ⟨g, j, none⟩) hg, HC.out j (by rw [HT.out]; omega)]
      simp [List.getD, List.getElem?_take, hj]
    have HGB : Hid (∀ W, Below w1.heap.size w1 W → g < W.heap.size) := by
      show ∀ W, Below w1.heap.size w1 W → g < W.heap.size
      exact fun W hW => Nat.lt_of_lt_of_le hg hW.size
    have hw1 := HB.out.size
    have hwt : IntKind.i64.wrap (t : Int) = t := IntWalk.i64_in _ (by omega)
    have hwx : IntKind.i64.wrap (x - 1) = x - 1 := IntWalk.i64_in _ (by omega)
    refine wp_region_held_drew (S := fun W => W.cell? ⟨g, t, none⟩ = some (.int .i64 x) ∧ Below w1.heap.size w1 W) (by kernel_rfl) ⟨by go_keep, Below.drew (Below.refl _ _)⟩ (fun hHeld => ?_)
    (refine wpAnyH_take (i := 0) (v := ?_) rfl (by kernel_rfl) (by kernel_rfl) (by kernel_rfl) (fun _ _ _ h => h) (Or.inl ⟨rfl, ?_⟩) (by assumption) ?_; rotate_left; focus (intro w hSw; (try dsimp only at hSw); go_simp; try (with_reducible rfl))); (try simp only [Act.put, List.getElem_toArray, List.getElem_cons_succ, List.getElem_cons_zero, List.setIfInBounds_toArray, List.set_cons_zero, List.set_cons_succ])
    (refine wpAnyH_take (i := 1) (v := ?_) rfl (by kernel_rfl) (by kernel_rfl) (by kernel_rfl) (fun _ _ _ h => h) (Or.inl ⟨rfl, ?_⟩) (by assumption) ?_; rotate_left; focus (intro w hSw; (try dsimp only at hSw); go_simp; try (with_reducible rfl))); (try simp only [Act.put, List.getElem_toArray, List.getElem_cons_succ, List.getElem_cons_zero, List.setIfInBounds_toArray, List.set_cons_zero, List.set_cons_succ])
    (refine wpAnyH_take (i := 2) (v := ?_) rfl (by kernel_rfl) (by kernel_rfl) (by kernel_rfl) (fun _ _ _ h => h) (Or.inl ⟨rfl, ?_⟩) (by assumption) ?_; rotate_left; focus (intro w hSw; (try dsimp only at hSw); go_simp; try (with_reducible rfl))); (try simp only [Act.put, List.getElem_toArray, List.getElem_cons_succ, List.getElem_cons_zero, List.setIfInBounds_toArray, List.set_cons_zero, List.set_cons_succ])
    (refine wpAnyH_take (i := 3) (v := ?_) rfl (by kernel_rfl) (by kernel_rfl) (by kernel_rfl) (fun _ _ _ h => h) (Or.inl ⟨rfl, ?_⟩) (by assumption) ?_; rotate_left; focus (intro w hSw; (try dsimp only at hSw); go_simp; try (with_reducible rfl))); (try simp only [Act.put, List.getElem_toArray, List.getElem_cons_succ, List.getElem_cons_zero, List.setIfInBounds_toArray, List.set_cons_zero, List.set_cons_succ])
    (refine wpAnyH_take (i := 5) (v := ?_) rfl (by kernel_rfl) (by kernel_rfl) (by kernel_rfl) (fun _ _ _ h => h) (Or.inl ⟨rfl, ?_⟩) (by assumption) ?_; rotate_left; focus (intro w hSw; (try dsimp only at hSw); go_simp; try (with_reducible rfl))); (try simp only [Act.put, List.getElem_toArray, List.getElem_cons_succ, List.getElem_cons_zero, List.setIfInBounds_toArray, List.set_cons_zero, List.set_cons_succ])
    (refine wpAnyH_take (i := 6) (v := ?_) rfl (by kernel_rfl) (by kernel_rfl) (by kernel_rfl) (fun _ _ _ h => h) (Or.inl ⟨rfl, ?_⟩) (by assumption) ?_; rotate_left; focus (intro w hSw; (try dsimp only at hSw); go_simp; try (with_reducible rfl))); (try simp only [Act.put, List.getElem_toArray, List.getElem_cons_succ, List.getElem_cons_zero, List.setIfInBounds_toArray, List.set_cons_zero, List.set_cons_succ])
    (refine wpAnyH_take (i := 7) (v := ?_) rfl (by kernel_rfl) (by kernel_rfl) (by kernel_rfl) (fun _ _ _ h => h) (Or.inl ⟨rfl, ?_⟩) (by assumption) ?_; rotate_left; focus (intro w hSw; (try dsimp only at hSw); go_simp; try (with_reducible rfl))); (try simp only [Act.put, List.getElem_toArray, List.getElem_cons_succ, List.getElem_cons_zero, List.setIfInBounds_toArray, List.set_cons_zero, List.set_cons_succ])
    (refine wpAnyH_take (i := 8) (v := ?_) rfl (by kernel_rfl) (by kernel_rfl) (by kernel_rfl) (fun _ _ _ h => h) (Or.inl ⟨rfl, ?_⟩) (by assumption) ?_; rotate_left; focus (intro w hSw; (try dsimp only at hSw); go_simp; try (with_reducible rfl))); (try simp only [Act.put, List.getElem_toArray, List.getElem_cons_succ, List.getElem_cons_zero, List.setIfInBounds_toArray, List.set_cons_zero, List.set_cons_succ])
    (refine wpAnyH_take (i := 9) (v := ?_) rfl (by kernel_rfl) (by kernel_rfl) (by kernel_rfl) (fun _ _ _ h => h) (Or.inl ⟨rfl, ?_⟩) (by assumption) ?_; rotate_left; focus (intro w hSw; (try dsimp only at hSw); go_simp; try (with_reducible rfl))); (try simp only [Act.put, List.getElem_toArray, List.getElem_cons_succ, List.getElem_cons_zero, List.setIfInBounds_toArray, List.set_cons_zero, List.set_cons_succ])
    (refine wpAnyH_take (i := 10) (v := ?_) rfl (by kernel_rfl) (by kernel_rfl) (by kernel_rfl) (fun _ _ _ h => h) (Or.inl ⟨rfl, ?_⟩) (by assumption) ?_; rotate_left; focus (intro w hSw; (try dsimp only at hSw); go_simp; try (with_reducible rfl))); (try simp only [Act.put, List.getElem_toArray, List.getElem_cons_succ, List.getElem_cons_zero, List.setIfInBounds_toArray, List.set_cons_zero, List.set_cons_succ])
    refine wpAnyH_ready (rs := [4, 11]) (by kernel_rfl) (by simp) ?_
    refine AllReadyH.cons rfl (fun K hK => ?_) (AllReadyH.cons rfl (fun K hK => ?_) AllReadyH.nil)
    · go_simp; (go_at_call 140; refine (l01Own_any g cap t (E.take t) _ HTL.out (by omega) (HGB.out _ hHeld.2) (HCT.out _ hHeld.2)).mono ?_; rintro e w2 ⟨v2, rfl, o2, b2⟩)
      have O2 : Hid (OwnI w.heap.size w2 v2 (E.take t)) := own_monoB o2 (by have := hw1; simp; omega)
      have OB : Hid (∀ k, v2.ownBlock = some k → w1.heap.size ≤ k) := fun k hk => by have := (World.ownsRow.lt o2 k hk).1; simpa using this
      have H2 : Hid (Below w1.heap.size w1 w2) := by show Below w1.heap.size w1 w2; (repeat' (first | (with_reducible exact Below.refl _ _) | (with_reducible refine Below.alloc ?_ ?_ _) | (with_reducible refine Below.setCell ?_ ?_ _) | (with_reducible refine Below.drew ?_) | (with_reducible refine below_drewN ?_ _) | (with_reducible assumption) | (with_reducible refine below_after (by with_reducible assumption) ?_) | go_size))
      clear o2 b2
      refine hK.out _ _ ?_ (fun hHeld2 => ?_)
      · exact ⟨(H2.out.cell (p := ⟨g, t, none⟩) hg).trans hct, H2.out⟩
      clear hHeld hK K
      rename _ => hHeld
      (try simp only [Act.put, List.getElem_toArray, List.getElem_cons_succ, List.getElem_cons_zero, List.setIfInBounds_toArray, List.set_cons_zero, List.set_cons_succ])
      refine wpAnyH_ready (rs := [11]) (by kernel_rfl) (by simp) ?_
      refine AllReadyH.cons rfl (fun K hK => ?_) AllReadyH.nil
      go_simp
      refine hK.out _ _ ?_ (fun hHeld2 => ?_)
      · have hh : Below w1.heap.size w1 (w2.alloc (.cells #[.int .i64 (x - 1), .int .i64 1] 2)) := H2.out.alloc H2.out.size _
        exact ⟨(hh.cell (p := ⟨g, t, none⟩) hg).trans hct, hh⟩
      clear hHeld hK K
      rename _ => hHeld
      (try simp only [Act.put, List.getElem_toArray, List.getElem_cons_succ, List.getElem_cons_zero, List.setIfInBounds_toArray, List.set_cons_zero, List.set_cons_succ])
      have HHz : Hid (Below w1.heap.size w1 (w2.alloc (.cells #[.int .i64 (x - 1), .int .i64 1] 2))) := H2.out.alloc H2.out.size _
      have HBz : Hid (Below w.heap.size w (w2.alloc (.cells #[.int .i64 (x - 1), .int .i64 1] 2))) := below_after HHz.out HB.out
      refine wpAnyH_ready (rs := [12]) (by kernel_rfl) (by simp) ?_
      refine AllReadyH.cons rfl (fun K hK => ?_) AllReadyH.nil
      rw [if_pos (by rfl)]
      refine wp_append_own _ _ 66 rfl w.heap.size 2 i0 (.int .i64 0) 1 8 Try.underlying66 hi hz0 hz1 hz2 rfl (by decide) _ _ _ rfl (OwnI.below O2.out (Below.alloc (Below.refl _ _) (Nat.le_refl _) _)) ⟨w2.heap.size, 0, none⟩ 2 2 [.int .i64 (x - 1), .int .i64 1] rfl rfl ?c1 ?c2 ?c3 ?c4 ?c5 ?c6
      case c1 =>
        intro j u hj
        match j, hj with
        | 0, hj => simp at hj; subst hj; show World.cell? _ ⟨_, 0, none⟩ = _; go_cell
        | 1, hj => simp at hj; subst hj; show World.cell? _ ⟨_, 1, none⟩ = _; go_cell
      case c2 => intro u hu; simp at hu; rcases hu with rfl | rfl <;> rfl
      case c3 => unfold maxLen; rw [HTL.out]; omega
      case c4 => rw [HTL.out]; omega
      case c5 => have := HBz.out.size; omega
      case c6 =>
        intro v' w3 hown' hgrow
        have HO3 : Hid (OwnI w.heap.size w3 v' (E.take t ++ [x - 1, 1])) := by
          show w3.ownsRow w.heap.size 2 1 v' (E.take t ++ [x - 1, 1]).length ((E.take t ++ [x - 1, 1]).map (Value.int .i64))
          rw [List.length_append, List.map_append]; exact hown'
        have HB3 : Hid (Below w.heap.size w w3) := Below.grown HBz.out hgrow HBz.out.size (fun k hk => (O2.out.lt k hk).1)
        have HW3 : Hid (Below w1.heap.size w1 w3) := Below.grown HHz.out hgrow HHz.out.size (fun k hk => OB.out k hk)
        clear hown' hgrow
        refine hK.out _ _ ?_ (fun hHeld2 => ?_)
        · exact ⟨(HW3.out.cell (p := ⟨g, t, none⟩) hg).trans hct, HW3.out⟩
        clear hHeld hK K
        rename _ => hHeld
        (try simp only [Act.put, List.getElem_toArray, List.getElem_cons_succ, List.getElem_cons_zero, List.setIfInBounds_toArray, List.set_cons_zero, List.set_cons_succ])
        (refine wpAnyH_take (i := 13) (v := ?_) rfl (by kernel_rfl) (by kernel_rfl) (by kernel_rfl) (fun _ _ _ h => h) (Or.inl ⟨rfl, ?_⟩) (by assumption) ?_; rotate_left; focus (intro w hSw; (try dsimp only at hSw); go_simp; try (with_reducible rfl))); (try simp only [Act.put, List.getElem_toArray, List.getElem_cons_succ, List.getElem_cons_zero, List.setIfInBounds_toArray, List.set_cons_zero, List.set_cons_succ])
        refine wpAnyH_done (by kernel_rfl) ?_ _
        go_wp2
        go_ret
        exact ⟨_, rfl, by rw [HL.out]; exact HO3.out, HB3.out⟩
    · go_simp
      refine hK.out _ _ ?_ (fun hHeld2 => ?_)
      · have hh : Below w1.heap.size w1 (w1.drew.alloc (.cells #[.int .i64 (x - 1), .int .i64 1] 2)) := (Below.drew (Below.refl _ _)).alloc (Nat.le_refl _) _
        exact ⟨(hh.cell (p := ⟨g, t, none⟩) hg).trans hct, hh⟩
      clear hHeld hK K
      rename _ => hHeld
      (try simp only [Act.put, List.getElem_toArray, List.getElem_cons_succ, List.getElem_cons_zero, List.setIfInBounds_toArray, List.set_cons_zero, List.set_cons_succ])
      have hh : Below w1.heap.size w1 (w1.drew.alloc (.cells #[.int .i64 (x - 1), .int .i64 1] 2)) := (Below.drew (Below.refl _ _)).alloc (Nat.le_refl _) _
      have hq0 : (w1.drew.alloc (.cells #[.int .i64 (x - 1), .int .i64 1] 2)).cell? ⟨w1.heap.size, 0, none⟩ = some (.int .i64 (x - 1)) := by go_cell
      have hq1 : (w1.drew.alloc (.cells #[.int .i64 (x - 1), .int .i64 1] 2)).cell? ⟨w1.heap.size, 1, none⟩ = some (.int .i64 1) := by go_cell
      have hz9 : w1.heap.size < (w1.drew.alloc (.cells #[.int .i64 (x - 1), .int .i64 1] 2)).heap.size := by simp
      refine wpAnyH_ready (rs := [4]) (by kernel_rfl) (by simp) ?_
      refine AllReadyH.cons rfl (fun K hK => ?_) AllReadyH.nil
      go_simp; (go_at_call 140; refine (l01Own_any g cap t (E.take t) _ HTL.out (by omega) (HGB.out _ hh) (HCT.out _ hh)).mono ?_; rintro e w2 ⟨v2, rfl, o2, b2⟩)
      have O2 : Hid (OwnI w.heap.size w2 v2 (E.take t)) := own_monoB o2 (by have := hw1; simp; omega)
      have OB : Hid (∀ k, v2.ownBlock = some k → w1.heap.size ≤ k) := fun k hk => by have := (World.ownsRow.lt o2 k hk).1; simp at this; omega
      have HHz : Hid (Below w1.heap.size w1 w2) := below_after b2 hh
      have HBz : Hid (Below w.heap.size w w2) := below_after HHz.out HB.out
      have hr0 := (b2.cell (p := ⟨w1.heap.size, 0, none⟩) hz9).trans hq0
      have hr1 := (b2.cell (p := ⟨w1.heap.size, 1, none⟩) hz9).trans hq1
      clear o2 b2 hq0 hq1
      refine hK.out _ _ ?_ (fun hHeld2 => ?_)
      · exact ⟨(HHz.out.cell (p := ⟨g, t, none⟩) hg).trans hct, HHz.out⟩
      clear hHeld hK K
      rename _ => hHeld
      (try simp only [Act.put, List.getElem_toArray, List.getElem_cons_succ, List.getElem_cons_zero, List.setIfInBounds_toArray, List.set_cons_zero, List.set_cons_succ])
      refine wpAnyH_ready (rs := [12]) (by kernel_rfl) (by simp) ?_
      refine AllReadyH.cons rfl (fun K hK => ?_) AllReadyH.nil
      rw [if_pos (by rfl)]
      refine wp_append_own _ _ 66 rfl w.heap.size 2 i0 (.int .i64 0) 1 8 Try.underlying66 hi hz0 hz1 hz2 rfl (by decide) _ _ _ rfl (OwnI.below O2.out (Below.refl _ _)) ⟨w1.heap.size, 0, none⟩ 2 2 [.int .i64 (x - 1), .int .i64 1] rfl rfl ?c1 ?c2 ?c3 ?c4 ?c5 ?c6
      case c1 =>
        intro j u hj
        match j, hj with
        | 0, hj => simp at hj; subst hj; show World.cell? _ ⟨_, 0, none⟩ = _; first | exact hr0 | exact hr1
        | 1, hj => simp at hj; subst hj; show World.cell? _ ⟨_, 1, none⟩ = _; first | exact hr0 | exact hr1
      case c2 => intro u hu; simp at hu; rcases hu with rfl | rfl <;> rfl
      case c3 => unfold maxLen; rw [HTL.out]; omega
      case c4 => rw [HTL.out]; omega
      case c5 => have := HBz.out.size; omega
      case c6 =>
        intro v' w3 hown' hgrow
        have HO3 : Hid (OwnI w.heap.size w3 v' (E.take t ++ [x - 1, 1])) := by
          show w3.ownsRow w.heap.size 2 1 v' (E.take t ++ [x - 1, 1]).length ((E.take t ++ [x - 1, 1]).map (Value.int .i64))
          rw [List.length_append, List.map_append]; exact hown'
        have HB3 : Hid (Below w.heap.size w w3) := Below.grown HBz.out hgrow HBz.out.size (fun k hk => (O2.out.lt k hk).1)
        have HW3 : Hid (Below w1.heap.size w1 w3) := Below.grown HHz.out hgrow HHz.out.size (fun k hk => OB.out k hk)
        clear hown' hgrow
        refine hK.out _ _ ?_ (fun hHeld2 => ?_)
        · exact ⟨(HW3.out.cell (p := ⟨g, t, none⟩) hg).trans hct, HW3.out⟩
        clear hHeld hK K
        rename _ => hHeld
        (try simp only [Act.put, List.getElem_toArray, List.getElem_cons_succ, List.getElem_cons_zero, List.setIfInBounds_toArray, List.set_cons_zero, List.set_cons_succ])
        (refine wpAnyH_take (i := 13) (v := ?_) rfl (by kernel_rfl) (by kernel_rfl) (by kernel_rfl) (fun _ _ _ h => h) (Or.inl ⟨rfl, ?_⟩) (by assumption) ?_; rotate_left; focus (intro w hSw; (try dsimp only at hSw); go_simp; try (with_reducible rfl))); (try simp only [Act.put, List.getElem_toArray, List.getElem_cons_succ, List.getElem_cons_zero, List.setIfInBounds_toArray, List.set_cons_zero, List.set_cons_succ])
        refine wpAnyH_done (by kernel_rfl) ?_ _
        go_wp2
        go_ret
        exact ⟨_, rfl, by rw [HL.out]; exact HO3.out, HB3.out⟩
end Go.Proofs.Ytoenlpkphekbnaa
