/-
  Contracts of chapter 3's SailPoints in the program (own work).
-/
import Derived.Maps.OwnIn
import Derived.Test.YtjiaokcbhpmodaaSail
import Derived.Test.YtjiaokcbhpmodaaSlP
namespace Go.Proofs.Ytjiaokcbhpmodaa
open Go.ChangeShapes Go.WideShapes Go.ChangeAt Go.RowKit Go.Shelf
set_option linter.unusedVariables false
set_option linter.unusedSimpArgs false
attribute [local go_sem] Oper.semAt_some

theorem sail_any (a b c d : Int) (w : World) : Calls Try.prog 47 #[.agg #[.int .i64 a, .int .i64 b], .agg #[.int .i64 c, .int .i64 d]] w fun e w' => e = .returned (.func (.func 63) #[] #[.pointer (some ⟨w.heap.size, 0, none⟩), .pointer (some ⟨w.heap.size + 1, 0, none⟩)]) ∧ w' = (w.alloc (.cells #[.int .i64 a, .int .i64 b] 24)).alloc (.cells #[.int .i64 c, .int .i64 d] 24) := by
  go_enter Try.func47, Try.ntmps47
  go_wp2
  go_ret
  exact ⟨rfl, rfl⟩
theorem impl_SailPoints_no (a b c d : Int) (w : World) (h : isAn (a, b) (c, d) = false) : Calls Try.prog 18 #[.agg #[.int .i64 a, .int .i64 b], .agg #[.int .i64 c, .int .i64 d]] w (RetPC w [] 1) := by
  go_enter Try.func18, Try.ntmps18
  go_wp2_with (go_at_call 16; refine (impl_IsAngle_any _ _ _ _ _).mono ?_; rintro e wn ⟨rfl, hb⟩; first | (have h2 := after_call2 hb hcl hfr hlt (by ((repeat' (first | (with_reducible exact Below.refl _ _) | (with_reducible refine Below.alloc ?_ ?_ _) | (with_reducible refine Below.setCell ?_ ?_ _) | (with_reducible refine Below.drew ?_) | (with_reducible refine below_drewN ?_ _) | (with_reducible assumption) | (with_reducible refine below_after (by with_reducible assumption) ?_) | go_size)); done)); obtain ⟨hclx, hfrx, hltx, hsz⟩ := after_call hb; (try simp only [World.size_alloc, World.size_setCell, World.size_drew] at hclx hfrx hltx hsz); (try (have hszl := Nat.lt_of_succ_le hsz)); obtain ⟨hcl, hfr, hlt⟩ := h2) | (obtain ⟨hcl, hfr, hlt, hsz⟩ := after_call hb; (try simp only [World.size_alloc, World.size_setCell, World.size_drew] at hcl hfr hlt hsz)))
  refine bodyPost_ret (v := .tuple #[.slice none 0 0, .int .i64 1]) (by simp (maxDischargeDepth := 8) [results, Try.results18, go_sem, *]) rfl ?_
  exact ⟨_, rfl, World.ownsRow_nil _ _ _ _, by (repeat' (first | (with_reducible exact Below.refl _ _) | (with_reducible refine Below.alloc ?_ ?_ _) | (with_reducible refine Below.setCell ?_ ?_ _) | (with_reducible refine Below.drew ?_) | (with_reducible refine below_drewN ?_ _) | (with_reducible assumption) | (with_reducible refine below_after (by with_reducible assumption) ?_) | go_size))⟩
/-- What the program holds between two points of the sail: w at the start, P the box of the list, R and S those of the results. -/
def Spi (w : World) (P R S : Nat) (G : Nat → Prop) (pre : List (Int × Int)) (W : World) : Prop :=
  (∃ v, Boxed W P 27 v ∧ OwnF w.heap.size W v pre.length (flat pre) ∧ ∀ k, v.ownBlock = some k → ¬ G k) ∧ Boxed W R 27 (.slice none 0 0) ∧ Boxed W S 2 (.int .i64 0) ∧ Below w.heap.size w W ∧
  (¬ G P ∧ ¬ G R ∧ ¬ G S) ∧ (∀ k, G k → w.heap.size ≤ k ∧ k < W.heap.size) ∧ pre.length ≤ 2000
def Spx (w : World) (R S : Nat) (c : Code) (G : Nat → Prop) (pre : List (Int × Int)) (W : World) : Prop :=
  c = .ret ∧ Boxed W R 27 (.slice none 0 0) ∧ Boxed W S 2 (.int .i64 3) ∧ Below w.heap.size w W ∧ (¬ G R ∧ ¬ G S) ∧ (∀ k, G k → w.heap.size ≤ k ∧ k < W.heap.size) ∧ 2000 < pre.length
theorem Boxed.turn {G : Nat → Prop} {W W' : World} {B : Nat} {t : TypeId} {v : Value} (h : Boxed W B t v) (ht : Turn G W W') (hn : ¬ G B) : Boxed W' B t v := (ht.2.2 B (Boxed.lt h) hn).trans h
theorem Spi.rule {w : World} {P R S : Nat} {G G' : Nat → Prop} {pre : List (Int × Int)} {W1 W2 : World} (h : Spi w P R S G pre W1) (ht : Turn G W1 W2) (hg : ∀ k, G' k → G k ∨ (W1.heap.size ≤ k ∧ k < W2.heap.size)) : Spi w P R S G' pre W2 := by
  obtain ⟨⟨v, hb, ho, hv⟩, hR, hS, hB, ⟨n1, n2, n3⟩, hG, hl⟩ := h
  have no : ∀ k, k < W1.heap.size → ¬ G k → ¬ G' k := fun k hk hn h => by rcases hg k h with h | h; exact hn h; omega
  refine ⟨⟨v, Boxed.turn hb ht n1, own_turn ho ht hv, fun k hk => no k (World.ownsRow.lt ho k hk).2 (hv k hk)⟩, Boxed.turn hR ht n2, Boxed.turn hS ht n3, Turn.to_below hB ht (fun k h => (hG k h).1) hB.size, ⟨no _ (Boxed.lt hb) n1, no _ (Boxed.lt hR) n2, no _ (Boxed.lt hS) n3⟩, fun k h => ?_, hl⟩
  have := ht.2.1
  have := hB.size
  rcases hg k h with h | h
  · have := hG k h; omega
  · omega
theorem Spx.rule {w : World} {R S : Nat} {c : Code} {G : Nat → Prop} {pre : List (Int × Int)} {W1 W2 : World} (h : Spx w R S c G pre W1) (ht : Turn G W1 W2) : Spx w R S c G pre W2 := by
  obtain ⟨hc, hR, hS, hB, ⟨n2, n3⟩, hG, hl⟩ := h
  have := ht.2.1
  exact ⟨hc, Boxed.turn hR ht n2, Boxed.turn hS ht n3, Turn.to_below hB ht (fun k h => (hG k h).1) hB.size, ⟨n2, n3⟩, fun k h => by have := hG k h; omega, hl⟩
set_option maxHeartbeats 8000000 in
theorem impl_SailPoints_an (a b c d : Int) (w : World) (h : isAn (a, b) (c, d) = true) : Calls Try.prog 18 #[.agg #[.int .i64 a, .int .i64 b], .agg #[.int .i64 c, .int .i64 d]] w (RetPC w (slL (a, b) (c, d)) (slC (a, b) (c, d))) := by
  obtain ⟨i0, hi, hz0, hz1, hz2⟩ := info_parts info_pt
  have HA := Lib.hid h
  refine (callsIn_wide (n := 6)).1 ?_
  refine callsIn_of_wp_marks Try.func18 rfl trivial ?_ rfl
  simp only [Try.ntmps18, List.size_toArray, List.length_cons, List.length_nil, Nat.reduceAdd, Nat.reduceSub, Array.replicate_succ, Array.replicate_zero, List.push_toArray, List.append_toArray, List.nil_append, List.cons_append]
  refine wpIn_wide.2 ?_
  have hs20 : w.heap.size < w.heap.size + 1 + 1 := (by omega); have hs30 : w.heap.size < w.heap.size + 1 + 1 + 1 := (by omega); have hs31 : w.heap.size + 1 < w.heap.size + 1 + 1 + 1 := (by omega); have hs40 : w.heap.size < w.heap.size + 1 + 1 + 1 + 1 := (by omega); have hs41 : w.heap.size + 1 < w.heap.size + 1 + 1 + 1 + 1 := (by omega); have hs42 : w.heap.size + 1 + 1 < w.heap.size + 1 + 1 + 1 + 1 := (by omega)
  go_wp2_with (first | (go_at_call 16; refine (impl_IsAngle_any _ _ _ _ _).mono ?_; rintro e wn ⟨rfl, hb⟩; first | (have h2 := after_call2 hb hcl hfr hlt (by ((repeat' (first | (with_reducible exact Below.refl _ _) | (with_reducible refine Below.alloc ?_ ?_ _) | (with_reducible refine Below.setCell ?_ ?_ _) | (with_reducible refine Below.drew ?_) | (with_reducible refine below_drewN ?_ _) | (with_reducible assumption) | (with_reducible refine below_after (by with_reducible assumption) ?_) | go_size)); done)); obtain ⟨hclx, hfrx, hltx, hsz⟩ := after_call hb; (try simp only [World.size_alloc, World.size_setCell, World.size_drew] at hclx hfrx hltx hsz); (try (have hszl := Nat.lt_of_succ_le hsz)); obtain ⟨hcl, hfr, hlt⟩ := h2) | (obtain ⟨hcl, hfr, hlt, hsz⟩ := after_call hb; (try simp only [World.size_alloc, World.size_setCell, World.size_drew] at hcl hfr hlt hsz))) | (go_at_call 47; refine (sail_any _ _ _ _ _).mono ?_; rintro e ws ⟨rfl, rfl⟩))
  have bR : Boxed wn (w.heap.size + 1 + 1) 27 (.slice none 0 0) := by
    refine (hb.block _ (by simp)).trans ?_
    have := (Boxed.new ((w.alloc (.cells #[.int .i64 a, .int .i64 b] 24)).alloc (.cells #[.int .i64 c, .int .i64 d] 24)) 27 (.slice none 0 0)).alloc (.cells #[.int .i64 0] 2)
    simp only [World.size_alloc] at this
    exact this
  have bS : Boxed wn (w.heap.size + 1 + 1 + 1) 2 (.int .i64 0) := by
    refine (hb.block _ (by simp)).trans ?_
    have := Boxed.new (((w.alloc (.cells #[.int .i64 a, .int .i64 b] 24)).alloc (.cells #[.int .i64 c, .int .i64 d] 24)).alloc (.cells #[.slice none 0 0] 27)) 2 (.int .i64 0)
    simp only [World.size_alloc] at this
    exact this
  have hBn : Below w.heap.size w wn := by (repeat' (first | (with_reducible exact Below.refl _ _) | (with_reducible refine Below.alloc ?_ ?_ _) | (with_reducible refine Below.setCell ?_ ?_ _) | (with_reducible refine Below.drew ?_) | (with_reducible refine below_drewN ?_ _) | (with_reducible assumption) | (with_reducible refine below_after (by with_reducible assumption) ?_) | go_size))
  have hsn : w.heap.size + 1 + 1 + 1 + 1 ≤ wn.heap.size := hsz
  have bP := ((Boxed.new wn 27 (.slice none 0 0)).alloc (.cells #[.int .i64 a, .int .i64 b] 24)).alloc (.cells #[.int .i64 c, .int .i64 d] 24)
  have pa := (Pc.of (Pb.new (wn.alloc (.cells #[.slice none 0 0] 27)) a b)).below ((Below.refl _ _).alloc (Nat.le_refl _) (.cells #[.int .i64 c, .int .i64 d] 24))
  have pb := Pc.of (Pb.new ((wn.alloc (.cells #[.slice none 0 0] 27)).alloc (.cells #[.int .i64 a, .int .i64 b] 24)) c d)
  have bR := ((bR.alloc (.cells #[.slice none 0 0] 27)).alloc (.cells #[.int .i64 a, .int .i64 b] 24)).alloc (.cells #[.int .i64 c, .int .i64 d] 24)
  have bS := ((bS.alloc (.cells #[.slice none 0 0] 27)).alloc (.cells #[.int .i64 a, .int .i64 b] 24)).alloc (.cells #[.int .i64 c, .int .i64 d] 24)
  have hBW : Below w.heap.size w (((wn.alloc (.cells #[.slice none 0 0] 27)).alloc (.cells #[.int .i64 a, .int .i64 b] 24)).alloc (.cells #[.int .i64 c, .int .i64 d] 24)) := ((hBn.alloc hBn.size _).alloc (by simp; omega) _).alloc (by simp; omega) _
  simp only [World.size_alloc] at pa pb
  obtain ⟨W0, hW0⟩ : ∃ W0, ((wn.alloc (.cells #[.slice none 0 0] 27)).alloc (.cells #[.int .i64 a, .int .i64 b] 24)).alloc (.cells #[.int .i64 c, .int .i64 d] 24) = W0 := ⟨_, rfl⟩
  rw [hW0] at bR bS bP pa pb hBW ⊢
  have hs0 : W0.heap.size = wn.heap.size + 1 + 1 + 1 := by rw [← hW0]; simp
  clear hW0 hb hcl hfr hlt hsz
  refine wp_rangeC (gf := 63) (lb := #[.pointer (some ⟨wn.heap.size + 1, 0, none⟩), .pointer (some ⟨wn.heap.size + 1 + 1, 0, none⟩)]) rfl (enters_of Try.func63 (by kernel_rfl) rfl) ep (fun _ => rfl) (slI (a, b) (c, d)) (fun k => k = wn.heap.size + 1 ∨ k = wn.heap.size + 1 + 1) ?hG0 ?hseq
    (Spi w wn.heap.size (w.heap.size + 1 + 1) (w.heap.size + 1 + 1 + 1)) (Spx w (w.heap.size + 1 + 1) (w.heap.size + 1 + 1 + 1)) (fun G G' pre W1 W2 h t g => Spi.rule h t g) (fun c G pre W1 W2 h t => Spx.rule h t) ?h0
    (fun D x a' W => ∃ Bx, Bx ≠ D + 1 ∧ Pb W Bx x ∧ a' = { tmps := #[.agg #[.int .i64 a, .int .i64 b], .agg #[.int .i64 c, .int .i64 d], .pointer (some ⟨w.heap.size, 0, none⟩), .pointer (some ⟨w.heap.size + 1, 0, none⟩), .pointer (some ⟨w.heap.size + 1 + 1, 0, none⟩), .pointer (some ⟨w.heap.size + 1 + 1 + 1, 0, none⟩), .pointer (some ⟨wn.heap.size, 0, none⟩), .pointer (some ⟨Bx, 0, none⟩), .agg #[.int .i64 a, .int .i64 b], .agg #[.int .i64 c, .int .i64 d], .bool true, .bool false, .agg #[.int .i64 a, .int .i64 b], .agg #[.int .i64 c, .int .i64 d], .func (.func 63) #[] #[.pointer (some ⟨wn.heap.size + 1, 0, none⟩), .pointer (some ⟨wn.heap.size + 1 + 1, 0, none⟩)], .agg #[.int .i64 x.1, .int .i64 x.2], undef, undef, undef, undef, undef, undef, undef, undef], defers := [] }) ?hAx ?hassign ?hbody ?hdone ?hstop (fun G pre W h k hk => (h.2.2.2.2.2.1 k hk).2)
  case hG0 =>
    intro k hk
    rcases hk with rfl | rfl <;> omega
  case hseq =>
    intro l J Jx W hW hJ hY h0
    exact sail1_any l _ _ a b c d HA.out J Jx W (pa.below hW) (pb.below hW) hJ hY h0
  case h0 =>
    refine ⟨⟨_, bP, World.ownsRow_nil _ _ _ _, fun k hk => by cases hk⟩, bR, bS, hBW, ⟨?_, ?_, ?_⟩, ?_, by simp⟩
    · rintro (h | h) <;> omega
    · rintro (h | h) <;> omega
    · rintro (h | h) <;> omega
    · rintro k (rfl | rfl) <;> omega
  case hAx =>
    rintro x a' W o ⟨Bx, hne, hx, rfl⟩ hlt
    exact ⟨Bx, hne, hx.same (World.putObj_heap_other hne), rfl⟩
  case hassign =>
    rintro l G pre ⟨x0, x1⟩ W K hi hlt hgl hK
    dsimp only [ep]
    gi_wp2
    exact hK _ _ (Spi.rule hi (Turn.below ((Below.refl _ _).alloc (Nat.le_refl _) _)) (fun k h => .inl h)) (by simp) (fun k hk => Below.heap_alloc _ _ k hk) ⟨W.heap.size, by omega, Pb.new W x0 x1, rfl⟩
  case hbody =>
    rintro l G pre ⟨x0, x1⟩ a' W ⟨⟨v, hbx, ho, hv⟩, hR, hS, hB, ⟨n1, n2, n3⟩, hG, hl⟩ ⟨Bx, hne, hx, rfl⟩ hgl hlen
    obtain ⟨va, vc, rfl, _⟩ := own_viewF ho
    have hcP := hbx.cell
    have hx0 := hx.c0
    have hx1 := hx.c1
    by_cases hlim : pre.length = 2000
    · have hcR := hR.cell
      have hfR := hR.frozen
      have hcS := hS.cell
      have hfS := hS.frozen
      have hln : ((pre.length : Int) == 2000) = true := by rw [hlim]; rfl
      gi_wp2
      refine ⟨⟨rfl, ?_, ?_, ?_, ⟨n2, n3⟩, ?_, ?_⟩, ?_, ?_⟩
      · exact ((hR.set (.slice none 0 0)).kept (grownBy_setCell' _ _ _) (by simp))
      · exact ((hS.kept (grownBy_setCell' _ _ _) (by simp)).set (.int .i64 3))
      · exact (hB.setCell (p := ⟨w.heap.size + 1 + 1, 0, none⟩) (by simp; omega) _).setCell (p := ⟨w.heap.size + 1 + 1 + 1, 0, none⟩) (by simp; omega) _
      · intro k hk; have := hG k hk; simpa using this
      · simp; omega
      · simp
      · intro k hk
        rw [Below.heap_setCell _ _ _ _ (fun e => n3 (by have e' : k = w.heap.size + 1 + 1 + 1 := e; rw [← e']; exact hk)), Below.heap_setCell _ _ _ _ (fun e => n2 (by have e' : k = w.heap.size + 1 + 1 := e; rw [← e']; exact hk))]
    · have hln : ((pre.length : Int) == 2000) = false := by
        cases hq : ((pre.length : Int) == 2000)
        · rfl
        · simp only [beq_iff_eq] at hq; omega
      have HL := Lib.hid (show pre.length < 2000 by omega)
      have HO := Lib.hid ho
      have HV := Lib.hid hv
      clear ho hv
      gi_wp2_with (gi_at_builtin; refine wpListIn_append_own_at _ rfl _ _ 27 rfl w.heap.size 24 i0 (.agg #[.int .i64 0, .int .i64 0]) 2 16 Try.underlying27 hi hz0 hz1 hz2 rfl (by decide) _ _ _ rfl (HO.out.alloc _) ⟨W.heap.size, 0, none⟩ 1 1 [.int .i64 x0, .int .i64 x1] rfl rfl ?c1 ?c2 ?c3 ?c4 ?c5 ?_)
      case c2 => exact ⟨rfl, rfl⟩
      case c3 => have := HL.out; unfold maxLen; omega
      case c4 => have := HL.out; omega
      case c5 => have := hB.size; (try simp only [World.size_alloc]); omega
      intro v' w1 hown' hgrow hnil hat
      obtain ⟨g', cap', rfl⟩ := ownsRow_succ hown'
      obtain ⟨hv1, hv2, hr2, hk2, hb2⟩ := hbx.appended (by decide) HO.out hB.size (by omega) hown' hgrow
      have hc1 := hv1.cell
      have hf1 := hv1.frozen
      have hsame : ∀ k, k < W.heap.size → k ≠ wn.heap.size → (Value.slice va pre.length vc).ownBlock ≠ some k → (w1.setCell ⟨wn.heap.size, 0, none⟩ (.slice (some ⟨g', 0, none⟩) (pre.length + 1) cap')).heap[k]? = W.heap[k]? := by
        intro k h1 h2 h3
        rw [Below.heap_setCell _ _ _ _ h2, hgrow.block k (by simp; omega) (fun e => h3 e.symm), Below.heap_alloc _ _ k h1]
      have hszw : W.heap.size ≤ (w1.setCell ⟨wn.heap.size, 0, none⟩ (.slice (some ⟨g', 0, none⟩) (pre.length + 1) cap')).heap.size := hk2.size
      have nR : (Value.slice va pre.length vc).ownBlock ≠ some (w.heap.size + 1 + 1) := (hR.not_row (by decide) HO.out).symm
      have nS : (Value.slice va pre.length vc).ownBlock ≠ some (w.heap.size + 1 + 1 + 1) := (hS.not_row (by decide) HO.out).symm
      have hrl := Boxed.lt hR
      have hsl := Boxed.lt hS
      gi_wp2
      refine ⟨⟨⟨_, hv2, ?_, ?_⟩, (hsame _ hrl (by omega) nR).trans hR, (hsame _ hsl (by omega) nS).trans hS, hB.trans hb2, ⟨n1, n2, n3⟩, ?_, ?_⟩, hszw, ?_⟩
      · show World.ownsRow _ _ _ _ _ (pre ++ [(x0, x1)]).length _
        rw [List.length_append, flat_append, List.map_append]; exact hr2
      · intro k hk
        have hk' : g' = k := by simpa [Value.ownBlock] using hk
        subst hk'
        rcases hat with h | h
        · exact HV.out _ (by rw [← h]; rfl)
        · intro hg
          have := hgl _ hg
          simp [Value.ownBlock] at h
          omega
      · intro k hk; have := hG k hk; omega
      · have := HL.out; simp; omega
      · intro k hk
        exact hsame k (hgl k hk) (fun e => n1 (by rw [← e]; exact hk)) (fun e => HV.out k e hk)
  case hdone =>
    rintro G W ⟨⟨v, hbx, ho, hv⟩, hR, hS, hB, ⟨n1, n2, n3⟩, hG, hl⟩ hgD hK
    obtain ⟨va, vc, rfl, _⟩ := own_viewF ho
    have HO := Lib.hid ho
    have HL := Lib.hid hl
    have HLY := Lib.hid (slL_yes HA.out hl)
    have HCY := Lib.hid (slC_yes HA.out hl)
    have nR : (Value.slice va (slI (a, b) (c, d)).length vc).ownBlock ≠ some (w.heap.size + 1 + 1) := (hR.not_row (by decide) HO.out).symm
    have nS : (Value.slice va (slI (a, b) (c, d)).length vc).ownBlock ≠ some (w.heap.size + 1 + 1 + 1) := (hS.not_row (by decide) HO.out).symm
    obtain ⟨N, hN⟩ : ∃ N, (slI (a, b) (c, d)).length = N := ⟨_, rfl⟩
    rw [hN] at hbx nR nS
    have HN := Lib.hid hN
    have hcP := hbx.cell
    have hcR := hR.cell
    have hfR := hR.frozen
    have hcS := hS.cell
    have hfS := hS.frozen
    clear ho hl hv hN
    go_wp2
    have hK1 := (KeepsOthers.setCell W ⟨w.heap.size + 1 + 1, 0, none⟩ (.slice va N vc)).same W0.heap.size _ hK rfl
    have hK2 := (KeepsOthers.setCell _ ⟨w.heap.size + 1 + 1 + 1, 0, none⟩ (.int .i64 0)).same W0.heap.size _ hK1 rfl
    refine ⟨by simp, .inl ⟨_, _, rfl, run_takeDeferred hK2, ?_⟩⟩
    have e0 : ((W.setCell ⟨w.heap.size + 1 + 1, 0, none⟩ (.slice va N vc)).setCell ⟨w.heap.size + 1 + 1 + 1, 0, none⟩ (.int .i64 0)).cell? ⟨w.heap.size + 1 + 1, 0, none⟩ = some (.slice va N vc) := by go_cell
    have e1 : ((W.setCell ⟨w.heap.size + 1 + 1, 0, none⟩ (.slice va N vc)).setCell ⟨w.heap.size + 1 + 1 + 1, 0, none⟩ (.int .i64 0)).cell? ⟨w.heap.size + 1 + 1 + 1, 0, none⟩ = some (.int .i64 0) := by go_cell
    have g0 := cell_kept e0 (grownBy_putObj' _ W0.heap.size (.deferred none)) (fun r e => by cases e; exact ⟨_, hK2, rfl⟩)
    have g1 := cell_kept e1 (grownBy_putObj' _ W0.heap.size (.deferred none)) (fun r e => by cases e; exact ⟨_, hK2, rfl⟩)
    have HO2 : OwnF w.heap.size ((W.setCell ⟨w.heap.size + 1 + 1, 0, none⟩ (.slice va N vc)).setCell ⟨w.heap.size + 1 + 1 + 1, 0, none⟩ (.int .i64 0)) (.slice va N vc) N (flat (slI (a, b) (c, d))) := by
      have := HO.out
      rw [HN.out] at this
      exact (World.ownsRow.kept this (grownBy_setCell' _ _ _) (.inr nR)).kept (grownBy_setCell' _ _ _) (.inr nS)
    rw [HLY.out, HCY.out]
    refine ⟨.tuple #[.slice va N vc, .int .i64 0], ?_, ⟨_, rfl, ?_, ((hB.setCell (p := ⟨w.heap.size + 1 + 1, 0, none⟩) (by simp; omega) _).setCell (p := ⟨w.heap.size + 1 + 1 + 1, 0, none⟩) (by simp; omega) _).trans (belowK_b (w := w) (Nat.le_refl _) _ W0.heap.size _ _ (by omega) hK2 rfl rfl)⟩⟩
    · simp [results, Try.f18, go_sem, g0, g1]
    · rw [HN.out]; exact ownsRow_putObj HO2 _ hK2 rfl
  case hstop =>
    rintro cc G pre W hpl ⟨rfl, hR, hS, hB, ⟨n2, n3⟩, hG, hl⟩ hgD hK
    have hlim : 2000 < (slI (a, b) (c, d)).length := by omega
    have HLY := Lib.hid (slL_limit HA.out hlim)
    have HCY := Lib.hid (slC_limit HA.out hlim)
    go_wp2
    refine ⟨by simp, .inl ⟨_, _, rfl, run_takeDeferred hK, ?_⟩⟩
    have g0 := cell_kept hR.cell (grownBy_putObj' _ W0.heap.size (.deferred none)) (fun r e => by cases e; exact ⟨_, hK, rfl⟩)
    have g1 := cell_kept hS.cell (grownBy_putObj' _ W0.heap.size (.deferred none)) (fun r e => by cases e; exact ⟨_, hK, rfl⟩)
    rw [HLY.out, HCY.out]
    refine ⟨.tuple #[.slice none 0 0, .int .i64 3], ?_, ⟨_, rfl, World.ownsRow_nil _ _ _ _, hB.trans (belowK_b (w := w) (Nat.le_refl _) _ W0.heap.size _ _ (by omega) hK rfl rfl)⟩⟩
    simp [results, Try.f18, go_sem, g0, g1]
theorem impl_SailPoints_any (a b c d : Int) (w : World) : Calls Try.prog 18 #[.agg #[.int .i64 a, .int .i64 b], .agg #[.int .i64 c, .int .i64 d]] w (RetPC w (slL (a, b) (c, d)) (slC (a, b) (c, d))) := by
  cases h : isAn (a, b) (c, d)
  · rw [slL_no h, slC_no h]; exact impl_SailPoints_no a b c d w h
  · exact impl_SailPoints_an a b c d w h
end Go.Proofs.Ytjiaokcbhpmodaa
