/-
  Contracts of chapter 3's AreaBelow: lists of sails cell by cell, the sum of the areas in the program, the count in the model (own work).
-/
import Derived.Test.YtjiaokcbhpmodaaSlI
import Derived.Test.YtjiaokcbhpmodaaSlN
import Derived.Test.YtjiaokcbhpmodaaAlg2
namespace Go.Proofs.Ytjiaokcbhpmodaa
open Go.ChangeShapes Go.WideShapes Go.ChangeAt Go.RowKit
set_option linter.unusedVariables false
set_option linter.unusedSimpArgs false

/-- The points of L lie in the block g. -/
def PtsAt (W : World) (g : Nat) (L : List (Int × Int)) : Prop :=
  g < W.heap.size ∧ ∀ k, k < L.length → W.cell? ⟨g, k * 2, none⟩ = some (.int .i64 (L.getD k (0, 0)).1) ∧ W.cell? ⟨g, k * 2 + 1, none⟩ = some (.int .i64 (L.getD k (0, 0)).2)
theorem PtsAt.below {W W' : World} {g : Nat} {L : List (Int × Int)} (h : PtsAt W g L) (hb : Below W.heap.size W W') : PtsAt W' g L :=
  ⟨Nat.lt_of_lt_of_le h.1 hb.size, fun k hk => ⟨((bcell hb).1 _ _ h.1).trans (h.2 k hk).1, ((bcell hb).1 _ _ h.1).trans (h.2 k hk).2⟩⟩
theorem retpc_some {w w' : World} {L : List (Int × Int)} {C : Int} {e : Ending} {n : Nat} (h : RetPC w L C e w') (hn : L.length = n) (h1 : 1 ≤ n) :
    ∃ g cp, e = .returned (.tuple #[.slice (some ⟨g, 0, none⟩) n cp, .int .i64 C]) ∧ w.heap.size ≤ g ∧ PtsAt w' g L ∧ Below w.heap.size w w' := by
  obtain ⟨v, rfl, ho, hb⟩ := h
  obtain ⟨a, cp, rfl, hv⟩ := own_viewF ho
  obtain ⟨g, rfl, hg, hl, hc, _⟩ := hv (by omega)
  refine ⟨g, cp, by rw [hn], hg, ⟨hl, fun k hk => ?_⟩, hb⟩
  obtain ⟨f0, f1⟩ := flat_get L k
  have c0 := hc (k * 2) (by omega)
  have c1 := hc (k * 2 + 1) (by omega)
  rw [f0] at c0
  rw [f1] at c1
  exact ⟨c0, c1⟩
theorem retpc_none {w w' : World} {L : List (Int × Int)} {C : Int} {e : Ending} (h : RetPC w L C e w') (hn : L.length = 0) :
    ∃ a cp, e = .returned (.tuple #[.slice a 0 cp, .int .i64 C]) ∧ Below w.heap.size w w' := by
  obtain ⟨v, rfl, ho, hb⟩ := h
  obtain ⟨a, cp, rfl, hv⟩ := own_viewF ho
  exact ⟨a, cp, by rw [hn], hb⟩
/-- Either there is a sail, or a code and no points. -/
theorem sl_cases (a b : Int × Int) : (slC a b = 0 ∧ isAn a b = true ∧ slL a b = slI a b ∧ cnL a b = cnI a b ∧ 2 ≤ (slL a b).length ∧ (slL a b).length ≤ 2000) ∨ (slC a b ≠ 0 ∧ slL a b = [] ∧ cnL a b = []) := by
  cases h : isAn a b
  · exact .inr ⟨by rw [slC_no h]; decide, slL_no h, cnL_no h⟩
  · by_cases hl : (slI a b).length ≤ 2000
    · exact .inl ⟨slC_yes h hl, rfl, slL_yes h hl, cnL_yes h hl, by rw [slL_yes h hl]; exact slI_two h, by rw [slL_yes h hl]; exact hl⟩
    · exact .inr ⟨by rw [slC_limit h (by omega)]; decide, slL_limit h (by omega), cnL_limit h (by omega)⟩
/-- Points one behind the other with the determinant 1, none of them great. -/
def Nbr (L : List (Int × Int)) : Prop := ∀ k, k + 1 < L.length → Sm (L.getD k (0, 0)) ∧ Sm (L.getD (k + 1) (0, 0)) ∧ detP (L.getD k (0, 0)) (L.getD (k + 1) (0, 0)) = 1
theorem slL_nbr (a b : Int × Int) : Nbr (slL a b) := by
  intro k hk
  rcases sl_cases a b with ⟨_, h, e, _, _, _⟩ | ⟨_, e, _⟩
  · rw [e] at hk ⊢
    have := slI_nbr h hk
    exact ⟨this.2.2.2.2.2.1, this.2.2.2.2.2.2.1, this.1⟩
  · rw [e] at hk; simp at hk
def abN (L : List (Int × Int)) : Int := if L.length = 0 then 0 else L.length - 1
theorem plusTimes_zero (x y : Int) (w : World) (h1 : Bn x) (h2 : Bn y) : Calls Try.prog 53 #[.agg #[.int .i64 x, .int .i64 y], .agg #[.int .i64 0, .int .i64 0], .int .i64 (-1)] w fun e w' => e = .returned (.agg #[.int .i64 x, .int .i64 y]) ∧ Below w.heap.size w w' :=
  (plusTimes_minus x y 0 0 w h1 h2 (by unfold Bn; omega) (by unfold Bn; omega)).mono fun e w' ⟨he, hw⟩ => ⟨by rw [he]; exact ret_pt (by omega) (by omega), hw⟩
theorem areaBetween_one (x1 y1 x2 y2 : Int) (w : World) (h1 : Sm (x1, y1)) (h2 : Sm (x2, y2)) (hd : detP (x1, y1) (x2, y2) = 1) :
    Calls Try.prog 54 #[.agg #[.int .i64 0, .int .i64 0], .agg #[.int .i64 x1, .int .i64 y1], .agg #[.int .i64 x2, .int .i64 y2]] w fun e w' => e = .returned (.int .i64 1) ∧ Below w.heap.size w w' := by
  have H1 : Hid (Bn x1 ∧ Bn y1) := sm_bn h1
  have H2 : Hid (Bn x2 ∧ Bn y2) := sm_bn h2
  have hD : ∀ w, Calls Try.prog 45 #[.agg #[.int .i64 x1, .int .i64 y1], .agg #[.int .i64 x2, .int .i64 y2]] w fun e w' => e = .returned (.int .i64 1) ∧ Below w.heap.size w w' := by
    intro w
    have := determinant_any x1 y1 x2 y2 w H1.out.1 H1.out.2 H2.out.1 H2.out.2
    rw [hd] at this
    exact this
  have HD := Lib.hid hD
  clear h1 h2 hd hD
  have hs20 : w.heap.size < w.heap.size + 1 + 1 := (by omega); have hs30 : w.heap.size < w.heap.size + 1 + 1 + 1 := (by omega); have hs31 : w.heap.size + 1 < w.heap.size + 1 + 1 + 1 := (by omega)
  go_enter Try.func54, Try.ntmps54
  go_wp2_with fail
  go_region_held3 (fun W => W.cell? ⟨w.heap.size, 0, none⟩ = some (.int .i64 0) ∧ W.cell? ⟨w.heap.size, 1, none⟩ = some (.int .i64 0) ∧ W.cell? ⟨w.heap.size + 1, 0, none⟩ = some (.int .i64 x1) ∧ W.cell? ⟨w.heap.size + 1, 1, none⟩ = some (.int .i64 y1) ∧ W.cell? ⟨w.heap.size + 1 + 1, 0, none⟩ = some (.int .i64 x2) ∧ W.cell? ⟨w.heap.size + 1 + 1, 1, none⟩ = some (.int .i64 y2) ∧ w.heap.size < W.heap.size ∧ w.heap.size + 1 < W.heap.size ∧ w.heap.size + 1 + 1 < W.heap.size) (first | (go_keep; done) | ((repeat' apply And.intro) <;> first | (go_keep; done) | (go_cell; done) | (refine (Below.cell (B := w.heap.size + 1 + 1 + 1) ?_ ?_).trans ?_; focus (repeat' (first | (with_reducible refine Below.alloc ?_ ?_ _) | (with_reducible refine Below.setCell ?_ ?_ _) | (with_reducible refine Below.drew ?_) | (with_reducible exact Below.refl _ _) | (first | omega | (simp only [World.size_alloc, World.size_drew, World.size_setCell]; omega) | (simp; omega)))); focus (first | omega | (simp only [World.size_alloc, World.size_drew, World.size_setCell]; omega) | (simp; omega)); first | (go_keep; done) | ((refine (Below.cell (by with_reducible assumption) ?_).trans ?_) <;> first | (go_keep; done) | (first | omega | (simp only [World.size_alloc, World.size_drew, World.size_setCell]; omega) | (simp; omega)))) | ((refine (Below.cell (by with_reducible assumption) ?_).trans ?_) <;> first | (go_keep; done) | (simp only [World.size_alloc, World.size_drew, World.size_setCell]; omega) | omega) | (simp only [World.size_alloc, World.size_drew, World.size_setCell]; omega) | omega)) (first | (go_at_call 53; refine (plusTimes_zero _ _ _ (by first | exact H1.out.1 | exact H2.out.1) (by first | exact H1.out.2 | exact H2.out.2)).mono ?_; rintro e wn ⟨rfl, hb⟩; first | (have h2 := after_call2 hb hcl hfr hlt (by ((repeat' (first | (with_reducible exact Below.refl _ _) | (with_reducible refine Below.alloc ?_ ?_ _) | (with_reducible refine Below.setCell ?_ ?_ _) | (with_reducible refine Below.drew ?_) | (with_reducible refine below_drewN ?_ _) | (with_reducible assumption) | (with_reducible refine below_after (by with_reducible assumption) ?_) | go_size)); done)); obtain ⟨hclx, hfrx, hltx, hsz⟩ := after_call hb; (try simp only [World.size_alloc, World.size_setCell, World.size_drew] at hclx hfrx hltx hsz); (try (have hszl := Nat.lt_of_succ_le hsz)); obtain ⟨hcl, hfr, hlt⟩ := h2) | (obtain ⟨hcl, hfr, hlt, hsz⟩ := after_call hb; (try simp only [World.size_alloc, World.size_setCell, World.size_drew] at hcl hfr hlt hsz))) | (go_at_call 45; refine (HD.out _).mono ?_; rintro e wn ⟨rfl, hb⟩; first | (have h2 := after_call2 hb hcl hfr hlt (by ((repeat' (first | (with_reducible exact Below.refl _ _) | (with_reducible refine Below.alloc ?_ ?_ _) | (with_reducible refine Below.setCell ?_ ?_ _) | (with_reducible refine Below.drew ?_) | (with_reducible refine below_drewN ?_ _) | (with_reducible assumption) | (with_reducible refine below_after (by with_reducible assumption) ?_) | go_size)); done)); obtain ⟨hclx, hfrx, hltx, hsz⟩ := after_call hb; (try simp only [World.size_alloc, World.size_setCell, World.size_drew] at hclx hfrx hltx hsz); (try (have hszl := Nat.lt_of_succ_le hsz)); obtain ⟨hcl, hfr, hlt⟩ := h2) | (obtain ⟨hcl, hfr, hlt, hsz⟩ := after_call hb; (try simp only [World.size_alloc, World.size_setCell, World.size_drew] at hcl hfr hlt hsz))) | (go_at_call 67; refine (absolute_any 1 _ ⟨by decide, by decide⟩).mono ?_; rintro e wn ⟨rfl, rfl⟩))
  go_wp2
  go_ret
  exact ⟨rfl, by (repeat' (first | (with_reducible exact Below.refl _ _) | (with_reducible refine Below.alloc ?_ ?_ _) | (with_reducible refine Below.setCell ?_ ?_ _) | (with_reducible refine Below.drew ?_) | (with_reducible refine below_drewN ?_ _) | (with_reducible assumption) | (with_reducible refine below_after (by with_reducible assumption) ?_) | go_size))⟩
set_option maxHeartbeats 4000000 in
theorem impl_AreaBelow_at (a b c d : Int) (L : List (Int × Int)) (C : Int) (n : Nat) (w : World) (hN : L.length = n) (hl : n ≤ 2000) (hnb : Nbr L)
    (hSP : ∀ w, Calls Try.prog 18 #[.agg #[.int .i64 a, .int .i64 b], .agg #[.int .i64 c, .int .i64 d]] w (RetPC w L C)) :
    Calls Try.prog 36 #[.agg #[.int .i64 a, .int .i64 b], .agg #[.int .i64 c, .int .i64 d]] w fun e w' => e = .returned (.tuple #[.int .i64 (abN L), .int .i64 C]) ∧ Below w.heap.size w w' := by
  have HSP := Lib.hid hSP
  have HN := Lib.hid hN
  have HNB := Lib.hid hnb
  clear hSP hnb hN
  by_cases hz : n = 0
  · have e : abN L = 0 := by unfold abN; rw [if_pos (by rw [HN.out]; exact hz)]
    rw [e]
    have HZ : Hid (L.length = 0) := by show _ = 0; rw [HN.out]; exact hz
    clear hz hl e
    go_enter Try.func36, Try.ntmps36
    go_wp2_with (go_at_call 18; refine (HSP.out _).mono ?_; rintro e wn hr; obtain ⟨va, vc, rfl, hb3⟩ := retpc_none hr HZ.out; clear hr)
    refine wp_loop_rounds 1 ?_
    rw [rounds_succ]
    go_wp2
    go_ret2
    exact ⟨rfl, by (repeat' (first | (with_reducible exact Below.refl _ _) | (with_reducible refine Below.alloc ?_ ?_ _) | (with_reducible refine Below.setCell ?_ ?_ _) | (with_reducible refine Below.drew ?_) | (with_reducible refine below_drewN ?_ _) | (with_reducible assumption) | (with_reducible refine below_after (by with_reducible assumption) ?_) | go_size))⟩
  · have e : abN L = n - 1 := by unfold abN; rw [if_neg (by rw [HN.out]; exact hz), HN.out]
    rw [e]
    have h1 : 1 ≤ n := by omega
    have H1 := Lib.hid h1
    have HL := Lib.hid hl
    clear hz hl e h1
    go_enter Try.func36, Try.ntmps36
    go_wp2_with (go_at_call 18; refine (HSP.out _).mono ?_; rintro e wn hr; obtain ⟨g, cp, rfl, hge, hpt, hb3⟩ := retpc_some hr HN.out H1.out; clear hr)
    have HPT := Lib.hid hpt
    clear hpt
    go_loopw [8, 9] (fun ar i wr => ∃ m m1 : Nat, m1 = m + 1 ∧ m1 ≤ n ∧ ar = .int .i64 (m : Int) ∧ i = .int .i64 (m1 : Int) ∧ Below wn.heap.size wn wr) (fun _ i _ => n - (intOf i).toNat)
    case atStart => exact ⟨0, 1, rfl, H1.out, rfl, rfl, Below.refl _ _⟩
    case round =>
      obtain ⟨m, m1, hm, hle, rfl, rfl, hbel⟩ := hrel
      have HM := Lib.hid hm
      have hl := HL.out
      by_cases hlt : m1 < n
      · have hpw := PtsAt.below HPT.out hbel
        obtain ⟨e1, e2⟩ := hpw.2 m (by rw [HN.out]; omega)
        obtain ⟨e3, e4⟩ := hpw.2 m1 (by rw [HN.out]; omega)
        obtain ⟨s1, s2, s3⟩ := HNB.out m (by rw [HN.out]; omega)
        rw [← hm] at s2 s3
        obtain ⟨⟨ux, uy⟩, hu⟩ : ∃ u, L.getD m (0, 0) = u := ⟨_, rfl⟩
        obtain ⟨⟨vx, vy⟩, hv⟩ : ∃ u, L.getD m1 (0, 0) = u := ⟨_, rfl⟩
        rw [hu] at e1 e2 s1 s3
        rw [hv] at e3 e4 s2 s3
        dsimp only at e1 e2 e3 e4
        have S1 := Lib.hid s1
        have S2 := Lib.hid s2
        have S3 := Lib.hid s3
        have i0 : (0 : Int) ≤ (m : Int) := by omega
        have i1 : (m : Int) < (n : Int) := by omega
        have i2 : (0 : Int) ≤ (m1 : Int) := by omega
        have i3 : (m1 : Int) < (n : Int) := by omega
        have i4 : (m1 : Int) - 1 = (m : Int) := by omega
        have i5 : IntKind.i64.wrap (m : Int) = (m : Int) := by rw [IntKind.wrap_i64]; omega
        have i6 : (n : Int) ≤ 2000 := by omega
        clear s1 s2 s3 hu hv hpw hm
        go_wp2
        go_region_with (go_at_call 54; refine (areaBetween_one _ _ _ _ _ S1.out S2.out S3.out).mono ?_; rintro e wk ⟨rfl, hbk⟩)
        all_goals
          go_wp2
          go_roundw
          case rel => exact ⟨m1, m1 + 1, rfl, by omega, by have := HM.out; rw [this]; go_num, by go_num, below_after hbk (by (repeat' (first | (with_reducible exact Below.refl _ _) | (with_reducible refine Below.alloc ?_ ?_ _) | (with_reducible refine Below.setCell ?_ ?_ _) | (with_reducible refine Below.drew ?_) | (with_reducible refine below_drewN ?_ _) | (with_reducible assumption) | (with_reducible refine below_after (by with_reducible assumption) ?_) | go_size)))⟩
          case measure => simp [intOf]; omega
      · have hnn : n = m1 := by omega
        subst hnn
        clear hlt
        go_wp2
        go_ret2
        have e2 : (n : Int) - 1 = (m : Int) := by have := HM.out; omega
        exact ⟨by simp [e2], by (repeat' (first | (with_reducible exact Below.refl _ _) | (with_reducible refine Below.alloc ?_ ?_ _) | (with_reducible refine Below.setCell ?_ ?_ _) | (with_reducible refine Below.drew ?_) | (with_reducible refine below_drewN ?_ _) | (with_reducible assumption) | (with_reducible refine below_after (by with_reducible assumption) ?_) | go_size))⟩
theorem impl_AreaBelow_any (a b c d : Int) (w : World) : Calls Try.prog 36 #[.agg #[.int .i64 a, .int .i64 b], .agg #[.int .i64 c, .int .i64 d]] w fun e w' => e = .returned (.tuple #[.int .i64 (abN (slL (a, b) (c, d))), .int .i64 (slC (a, b) (c, d))]) ∧ Below w.heap.size w w' :=
  impl_AreaBelow_at a b c d _ _ _ w rfl (slL_len _ _) (slL_nbr _ _) (fun w => impl_SailPoints_any a b c d w)
theorem spec_AreaBelow_any (a b c d : Int) (w : World) : Calls Try.prog 35 #[.agg #[.int .i64 a, .int .i64 b], .agg #[.int .i64 c, .int .i64 d]] w fun e w' => e = .returned (.tuple #[.int .i64 (abN (slL (a, b) (c, d))), .int .i64 (slC (a, b) (c, d))]) ∧ Below w.heap.size w w' := by
  rcases sl_cases (a, b) (c, d) with ⟨hc, _, _, _, h2, h3⟩ | ⟨hc, hn, _⟩
  · obtain ⟨n, hN⟩ : ∃ n, (slL (a, b) (c, d)).length = n := ⟨_, rfl⟩
    have e : abN (slL (a, b) (c, d)) = n - 1 := by unfold abN; rw [if_neg (by omega), hN]
    rw [e, hc]
    have HN := Lib.hid hN
    have HC := Lib.hid hc
    rw [hN] at h2 h3
    have h4 : (n : Int) ≤ 2000 := by omega
    clear hN hc e
    go_enter Try.func35, Try.ntmps35
    go_wp2_with (go_at_call 46; refine (l03Code_any _ _ _ _ _).mono ?_; rintro e wn ⟨v1, v2, rfl, hp, hq, hb3⟩; obtain ⟨va, vc, rfl, _⟩ := own_viewF hp; obtain ⟨na, nc, rfl, _⟩ := own_view hq; rw [HC.out, HN.out]; clear hp hq)
    go_ret2
    exact ⟨rfl, by (repeat' (first | (with_reducible exact Below.refl _ _) | (with_reducible refine Below.alloc ?_ ?_ _) | (with_reducible refine Below.setCell ?_ ?_ _) | (with_reducible refine Below.drew ?_) | (with_reducible refine below_drewN ?_ _) | (with_reducible assumption) | (with_reducible refine below_after (by with_reducible assumption) ?_) | go_size))⟩
  · have e : abN (slL (a, b) (c, d)) = 0 := by unfold abN; rw [hn]; rfl
    rw [e]
    obtain ⟨C, hC⟩ : ∃ C, slC (a, b) (c, d) = C := ⟨_, rfl⟩
    rw [hC] at hc ⊢
    have HC := Lib.hid hC
    have hc2 : (C == 0) = false := by simpa using hc
    have hc3 : ¬ C = 0 := hc
    have hc4 : (C != 0) = true := by simpa using hc
    clear hn hC e
    go_enter Try.func35, Try.ntmps35
    go_wp2_with (go_at_call 46; refine (l03Code_any _ _ _ _ _).mono ?_; rintro e wn ⟨v1, v2, rfl, hp, hq, hb3⟩; obtain ⟨va, vc, rfl, _⟩ := own_viewF hp; obtain ⟨na, nc, rfl, _⟩ := own_view hq; rw [HC.out]; clear hp hq)
    go_ret2
    exact ⟨rfl, by (repeat' (first | (with_reducible exact Below.refl _ _) | (with_reducible refine Below.alloc ?_ ?_ _) | (with_reducible refine Below.setCell ?_ ?_ _) | (with_reducible refine Below.drew ?_) | (with_reducible refine below_drewN ?_ _) | (with_reducible assumption) | (with_reducible refine below_after (by with_reducible assumption) ?_) | go_size))⟩
end Go.Proofs.Ytjiaokcbhpmodaa
