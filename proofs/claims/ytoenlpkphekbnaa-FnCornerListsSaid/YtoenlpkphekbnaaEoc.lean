/-
  Contracts of chapter 2's ExpansionOfCorner, in the program and in the model (own work).
-/
import Derived.Test.YtoenlpkphekbnaaLong
import Derived.Test.YtoenlpkphekbnaaCor3
namespace Go.Proofs.Ytoenlpkphekbnaa
open Go.ChangeShapes Go.WideShapes Go.ChangeAt Go.RowKit
set_option linter.unusedVariables false
set_option maxRecDepth 100000
set_option linter.unusedSimpArgs false

def RetIC (w : World) (xs : List Int) (c : Int) (e : Ending) (w' : World) : Prop := ∃ v, e = .returned (.tuple #[v, .int .i64 c]) ∧ OwnI w.heap.size w' v xs ∧ Below w.heap.size w w'
/-- The long expansion of a corner, where its sine is not too great. -/
def lnC (a b c d : Int) : List Int := if crC a b c d = 0 then lng (expI (sinI a b c d) (cosI a b c d)) else []
theorem lnC_no {a b c d : Int} (h : isCr a b c d = false) : lnC a b c d = [] := by unfold lnC; rw [crC_no h]; rfl
theorem lnC_limit {a b c d : Int} (h : isCr a b c d = true) (k : fitC a b c d = false) : lnC a b c d = [] := by unfold lnC; rw [crC_limit h k]; rfl
theorem lnC_yes {a b c d : Int} (h : isCr a b c d = true) (k : fitC a b c d = true) : lnC a b c d = lng (expI (sinI a b c d) (cosI a b c d)) := by unfold lnC; rw [crC_yes h k]; rfl
theorem lng_len (xs : List Int) : (lng xs).length ≤ xs.length + 2 := by
  unfold lng
  split
  · omega
  · rw [List.length_append, List.length_dropLast]; simp only [List.length_cons, List.length_nil]; omega
theorem lnC_len (a b c d : Int) : (lnC a b c d).length ≤ 1000003 := by
  cases h : isCr a b c d
  · rw [lnC_no h]; simp
  · cases hk : fitC a b c d
    · rw [lnC_limit h hk]; simp
    · rw [lnC_yes h hk]
      have h1 := lng_len (expI (sinI a b c d) (cosI a b c d))
      have h2 := expI_len (sinI a b c d) (cosI a b c d)
      have := cos_bd h
      have := fitC_iff.1 hk
      omega
/-- Collect of the long expansion's numbers, wherever s and c lie. -/
theorem collectLong_at (s c : Int) (Ba Bb : Nat) (W : World) (hs1 : 1 ≤ s) (hs2 : s ≤ 1000000) (hc1 : 1 ≤ c) (hc2 : c ≤ 1000000) (hA : W.cell? ⟨Ba, 0, none⟩ = some (.int .i64 s)) (hB : W.cell? ⟨Bb, 0, none⟩ = some (.int .i64 c)) :
    Calls Try.prog 122 #[.func (.func 138) #[] #[.pointer (some ⟨Ba, 0, none⟩), .pointer (some ⟨Bb, 0, none⟩)]] W (RetI W (lng (expI s c))) := by
  rw [← leN_is hc1]
  refine (callsIn_wide (n := 6)).1 ?_
  refine (collect_in 6 (by omega) 138 _ (enters_of Try.func138 (by kernel_rfl) rfl) (fun ys => ys = leN c.toNat s c true) (fun _ => True) _ (by have := leN_le c.toNat s c true; omega) _ (longExp_stops _ (by omega) Ba Bb s c hs1 hs2 hc1 hc2 _ (World.block_lt_of_cell? W ⟨Ba, 0, none⟩ hA) (World.block_lt_of_cell? W ⟨Bb, 0, none⟩ hB) hA hB)).mono ?_
  rintro e W' ⟨v, ss, rfl, rfl, ho, hb2⟩
  exact ⟨v, rfl, ho, hb2⟩
set_option maxHeartbeats 1600000 in
theorem impl_ExpansionOfCorner_any (a b c d : Int) (w : World) : Calls Try.prog 57 #[.agg #[.int .i64 a, .int .i64 b, .int .i64 c, .int .i64 d]] w (RetIC w (lnC a b c d) (crC a b c d)) := by
  have hN := fun w => impl_NormalCorner_any a b c d w
  cases h : isCr a b c d
  · rw [lnC_no h, crC_no h]
    rw [crC_no h, oni_1, oni_1, oni_1] at hN
    have HN := Lib.hid hN
    clear hN h
    have hs20 : w.heap.size < w.heap.size + 1 + 1 := (by omega)
    go_enter Try.func57, Try.ntmps57
    go_wp2_with (first | (go_at_call 60; refine (HN.out _).mono ?_; rintro e wn ⟨rfl, hb⟩; first | (have h2 := after_call2 hb hcl hfr hlt (by ((repeat' (first | (with_reducible exact Below.refl _ _) | (with_reducible refine Below.alloc ?_ ?_ _) | (with_reducible refine Below.setCell ?_ ?_ _) | (with_reducible refine Below.drew ?_) | (with_reducible refine below_drewN ?_ _) | (with_reducible assumption) | (with_reducible refine below_after (by with_reducible assumption) ?_) | go_size)); done)); obtain ⟨hclx, hfrx, hltx, hsz⟩ := after_call hb; (try simp only [World.size_alloc, World.size_setCell, World.size_drew] at hclx hfrx hltx hsz); (try (have hszl := Nat.lt_of_succ_le hsz)); obtain ⟨hcl, hfr, hlt⟩ := h2) | (obtain ⟨hcl, hfr, hlt, hsz⟩ := after_call hb; (try simp only [World.size_alloc, World.size_setCell, World.size_drew] at hcl hfr hlt hsz))))
    go_ret2
    exact ⟨_, rfl, World.ownsRow_nil _ _ _ _, by (repeat' (first | (with_reducible exact Below.refl _ _) | (with_reducible refine Below.alloc ?_ ?_ _) | (with_reducible refine Below.setCell ?_ ?_ _) | (with_reducible refine Below.drew ?_) | (with_reducible refine below_drewN ?_ _) | (with_reducible assumption) | (with_reducible refine below_after (by with_reducible assumption) ?_) | go_size))⟩
  · cases hk : fitC a b c d
    · rw [lnC_limit h hk, crC_limit h hk]
      rw [crC_limit h hk, oni_3, oni_3, oni_3] at hN
      have HN := Lib.hid hN
      clear hN h hk
      have hs20 : w.heap.size < w.heap.size + 1 + 1 := (by omega)
      go_enter Try.func57, Try.ntmps57
      go_wp2_with (first | (go_at_call 60; refine (HN.out _).mono ?_; rintro e wn ⟨rfl, hb⟩; first | (have h2 := after_call2 hb hcl hfr hlt (by ((repeat' (first | (with_reducible exact Below.refl _ _) | (with_reducible refine Below.alloc ?_ ?_ _) | (with_reducible refine Below.setCell ?_ ?_ _) | (with_reducible refine Below.drew ?_) | (with_reducible refine below_drewN ?_ _) | (with_reducible assumption) | (with_reducible refine below_after (by with_reducible assumption) ?_) | go_size)); done)); obtain ⟨hclx, hfrx, hltx, hsz⟩ := after_call hb; (try simp only [World.size_alloc, World.size_setCell, World.size_drew] at hclx hfrx hltx hsz); (try (have hszl := Nat.lt_of_succ_le hsz)); obtain ⟨hcl, hfr, hlt⟩ := h2) | (obtain ⟨hcl, hfr, hlt, hsz⟩ := after_call hb; (try simp only [World.size_alloc, World.size_setCell, World.size_drew] at hcl hfr hlt hsz))))
      go_ret2
      exact ⟨_, rfl, World.ownsRow_nil _ _ _ _, by (repeat' (first | (with_reducible exact Below.refl _ _) | (with_reducible refine Below.alloc ?_ ?_ _) | (with_reducible refine Below.setCell ?_ ?_ _) | (with_reducible refine Below.drew ?_) | (with_reducible refine below_drewN ?_ _) | (with_reducible assumption) | (with_reducible refine below_after (by with_reducible assumption) ?_) | go_size))⟩
    · rw [lnC_yes h hk, crC_yes h hk]
      rw [crC_yes h hk, oni_0, oni_0, oni_0] at hN
      have HN := Lib.hid hN
      obtain ⟨c1, c2⟩ := cos_bd h
      have c3 := fitC_iff.1 hk
      have s1 := (sin_pos h).1
      have k9 : cosI a b c d ≤ 1000000 := by omega
      generalize sinI a b c d = s at *
      generalize cosI a b c d = k at *
      clear hN h hk
      have hs20 : w.heap.size < w.heap.size + 1 + 1 := (by omega)
      go_enter Try.func57, Try.ntmps57
      go_wp2_with (first | (go_at_call 60; refine (HN.out _).mono ?_; rintro e wn ⟨rfl, hb⟩; first | (have h2 := after_call2 hb hcl hfr hlt (by ((repeat' (first | (with_reducible exact Below.refl _ _) | (with_reducible refine Below.alloc ?_ ?_ _) | (with_reducible refine Below.setCell ?_ ?_ _) | (with_reducible refine Below.drew ?_) | (with_reducible refine below_drewN ?_ _) | (with_reducible assumption) | (with_reducible refine below_after (by with_reducible assumption) ?_) | go_size)); done)); obtain ⟨hclx, hfrx, hltx, hsz⟩ := after_call hb; (try simp only [World.size_alloc, World.size_setCell, World.size_drew] at hclx hfrx hltx hsz); (try (have hszl := Nat.lt_of_succ_le hsz)); obtain ⟨hcl, hfr, hlt⟩ := h2) | (obtain ⟨hcl, hfr, hlt, hsz⟩ := after_call hb; (try simp only [World.size_alloc, World.size_setCell, World.size_drew] at hcl hfr hlt hsz))) | (go_at_call 123; refine (longExpansion_any _ _ _).mono ?_; rintro e w2 ⟨rfl, rfl⟩) | (go_at_call 122; refine (collectLong_at s k _ _ _ s1 c3 c1 k9 (by go_cell) (by go_cell)).mono ?_; rintro e w3 ⟨v, rfl, ho, hb3⟩))
      go_ret2
      exact ⟨v, rfl, own_monoB ho (by simp only [World.size_alloc, World.size_setCell]; omega), by (repeat' (first | (with_reducible exact Below.refl _ _) | (with_reducible refine Below.alloc ?_ ?_ _) | (with_reducible refine Below.setCell ?_ ?_ _) | (with_reducible refine Below.drew ?_) | (with_reducible refine below_drewN ?_ _) | (with_reducible assumption) | (with_reducible refine below_after (by with_reducible assumption) ?_) | go_size))⟩
set_option maxHeartbeats 1600000 in
theorem spec_ExpansionOfCorner_any (a b c d : Int) (w : World) : Calls Try.prog 58 #[.agg #[.int .i64 a, .int .i64 b, .int .i64 c, .int .i64 d]] w (RetIC w (lnC a b c d) (crC a b c d)) := by
  cases h : isCr a b c d
  · rw [lnC_no h]
    have HR := Lib.hid (crC_no h)
    rw [HR.out]
    have hs20 : w.heap.size < w.heap.size + 1 + 1 := (by omega)
    go_enter Try.func58, Try.ntmps58
    go_wp2_with (first | (go_at_call 114; refine (l02Code1_any a b c d _ _ _ (by simp) (by go_cell) (by go_cell) (by go_cell) (by go_cell)).mono ?_; rw [HR.out]; rintro e wn ⟨rfl, hb⟩; obtain ⟨hcl, hfr, hlt, hsz⟩ := after_call hb; (try simp only [World.size_alloc, World.size_setCell, World.size_drew] at hcl hfr hlt hsz)))
    go_ret2
    exact ⟨_, rfl, World.ownsRow_nil _ _ _ _, by (repeat' (first | (with_reducible exact Below.refl _ _) | (with_reducible refine Below.alloc ?_ ?_ _) | (with_reducible refine Below.setCell ?_ ?_ _) | (with_reducible refine Below.drew ?_) | (with_reducible refine below_drewN ?_ _) | (with_reducible assumption) | (with_reducible refine below_after (by with_reducible assumption) ?_) | go_size))⟩
  · obtain ⟨k0, k1, _⟩ := isCr_parts h
    have H0 := Lib.hid k0
    have H1 := Lib.hid k1
    have HC := Lib.hid h
    clear k0 k1
    cases hk : fitC a b c d
    · rw [lnC_limit h hk]
      have HR := Lib.hid (crC_limit h hk)
      rw [HR.out]
      have hs20 : w.heap.size < w.heap.size + 1 + 1 := (by omega)
      go_enter Try.func58, Try.ntmps58
      go_wp2_with (first | (go_at_call 114; refine (l02Code1_any a b c d _ _ _ (by simp) (by go_cell) (by go_cell) (by go_cell) (by go_cell)).mono ?_; rw [HR.out]; rintro e wn ⟨rfl, hb⟩; obtain ⟨hcl, hfr, hlt, hsz⟩ := after_call hb; (try simp only [World.size_alloc, World.size_setCell, World.size_drew] at hcl hfr hlt hsz)))
      go_ret2
      exact ⟨_, rfl, World.ownsRow_nil _ _ _ _, by (repeat' (first | (with_reducible exact Below.refl _ _) | (with_reducible refine Below.alloc ?_ ?_ _) | (with_reducible refine Below.setCell ?_ ?_ _) | (with_reducible refine Below.drew ?_) | (with_reducible refine below_drewN ?_ _) | (with_reducible assumption) | (with_reducible refine below_after (by with_reducible assumption) ?_) | go_size))⟩
    · rw [lnC_yes h hk]
      have HR := Lib.hid (crC_yes h hk)
      rw [HR.out]
      obtain ⟨c1, c2⟩ := cos_bd h
      have c3 := fitC_iff.1 hk
      have HLg := Lib.hid (fun w => l02Long_any (sinI a b c d) (cosI a b c d) w (by omega) c3 c1 (by omega))
      clear h hk
      have hs20 : w.heap.size < w.heap.size + 1 + 1 := (by omega)
      go_enter Try.func58, Try.ntmps58
      go_wp2_with (first | (go_at_call 114; refine (l02Code1_any a b c d _ _ _ (by simp) (by go_cell) (by go_cell) (by go_cell) (by go_cell)).mono ?_; rw [HR.out]; rintro e wn ⟨rfl, hb⟩; obtain ⟨hcl, hfr, hlt, hsz⟩ := after_call hb; (try simp only [World.size_alloc, World.size_setCell, World.size_drew] at hcl hfr hlt hsz)))
      refine wp_region_held_drew (S := fun W => W.cell? ⟨w.heap.size, 0, none⟩ = some (.int .i64 a) ∧ W.cell? ⟨w.heap.size, 1, none⟩ = some (.int .i64 b) ∧ W.cell? ⟨w.heap.size, 2, none⟩ = some (.int .i64 c) ∧ W.cell? ⟨w.heap.size, 3, none⟩ = some (.int .i64 d) ∧ w.heap.size < W.heap.size) (by kernel_rfl) ?_ (fun hHeld => ?_); focus ((try dsimp only); (first | (go_keep; done) | ((repeat' apply And.intro) <;> first | (go_keep; done) | (go_cell; done) | (refine (Below.cell (B := w.heap.size + 1) ?_ ?_).trans ?_; focus (repeat' (first | (with_reducible refine Below.alloc ?_ ?_ _) | (with_reducible refine Below.setCell ?_ ?_ _) | (with_reducible refine Below.drew ?_) | (with_reducible exact Below.refl _ _) | (first | omega | (simp only [World.size_alloc, World.size_drew, World.size_setCell]; omega) | (simp; omega)))); focus (first | omega | (simp only [World.size_alloc, World.size_drew, World.size_setCell]; omega) | (simp; omega)); first | (go_keep; done) | ((refine (Below.cell (by with_reducible assumption) ?_).trans ?_) <;> first | (go_keep; done) | (first | omega | (simp only [World.size_alloc, World.size_drew, World.size_setCell]; omega) | (simp; omega)))) | ((refine (Below.cell (by with_reducible assumption) ?_).trans ?_) <;> first | (go_keep; done) | (simp only [World.size_alloc, World.size_drew, World.size_setCell]; omega) | omega) | (simp only [World.size_alloc, World.size_drew, World.size_setCell]; omega) | omega)))
      (refine wpAnyH_take (i := 0) (v := ?_) rfl (by kernel_rfl) (by kernel_rfl) (by kernel_rfl) (fun _ _ _ h => h) (Or.inl ⟨rfl, ?_⟩) (by assumption) ?_; rotate_left; focus (intro w hSw; (try dsimp only at hSw); go_simp; try (with_reducible rfl))); (try simp only [Act.put, List.getElem_toArray, List.getElem_cons_succ, List.getElem_cons_zero, List.setIfInBounds_toArray, List.set_cons_zero, List.set_cons_succ])
      (refine wpAnyH_take (i := 2) (v := ?_) rfl (by kernel_rfl) (by kernel_rfl) (by kernel_rfl) (fun _ _ _ h => h) (Or.inl ⟨rfl, ?_⟩) (by assumption) ?_; rotate_left; focus (intro w hSw; (try dsimp only at hSw); go_simp; try (with_reducible rfl))); (try simp only [Act.put, List.getElem_toArray, List.getElem_cons_succ, List.getElem_cons_zero, List.setIfInBounds_toArray, List.set_cons_zero, List.set_cons_succ])
      (refine wpAnyH_ready (rs := [1]) (by kernel_rfl) (by simp) ?_; refine AllReadyH.cons rfl (fun K hK => ?_) AllReadyH.nil; go_simp; (go_at_call 116; refine (l02Sine_any _ _ _ _ _ H0.out H1.out).mono ?_; rintro e wn ⟨rfl, hb⟩; first | (have h2 := after_call2 hb hcl hfr hlt (by ((repeat' (first | (with_reducible exact Below.refl _ _) | (with_reducible refine Below.alloc ?_ ?_ _) | (with_reducible refine Below.setCell ?_ ?_ _) | (with_reducible refine Below.drew ?_) | (with_reducible refine below_drewN ?_ _) | (with_reducible assumption) | (with_reducible refine below_after (by with_reducible assumption) ?_) | go_size)); done)); obtain ⟨hclx, hfrx, hltx, hsz⟩ := after_call hb; (try simp only [World.size_alloc, World.size_setCell, World.size_drew] at hclx hfrx hltx hsz); (try (have hszl := Nat.lt_of_succ_le hsz)); obtain ⟨hcl, hfr, hlt⟩ := h2) | (obtain ⟨hcl, hfr, hlt, hsz⟩ := after_call hb; (try simp only [World.size_alloc, World.size_setCell, World.size_drew] at hcl hfr hlt hsz))); refine hK.out _ _ ?_ (fun hHeld2 => ?_); focus ((try dsimp only); (first | (go_keep; done) | ((repeat' apply And.intro) <;> first | (go_keep; done) | (go_cell; done) | (refine (Below.cell (B := w.heap.size + 1) ?_ ?_).trans ?_; focus (repeat' (first | (with_reducible refine Below.alloc ?_ ?_ _) | (with_reducible refine Below.setCell ?_ ?_ _) | (with_reducible refine Below.drew ?_) | (with_reducible exact Below.refl _ _) | (first | omega | (simp only [World.size_alloc, World.size_drew, World.size_setCell]; omega) | (simp; omega)))); focus (first | omega | (simp only [World.size_alloc, World.size_drew, World.size_setCell]; omega) | (simp; omega)); first | (go_keep; done) | ((refine (Below.cell (by with_reducible assumption) ?_).trans ?_) <;> first | (go_keep; done) | (first | omega | (simp only [World.size_alloc, World.size_drew, World.size_setCell]; omega) | (simp; omega)))) | ((refine (Below.cell (by with_reducible assumption) ?_).trans ?_) <;> first | (go_keep; done) | (simp only [World.size_alloc, World.size_drew, World.size_setCell]; omega) | omega) | (simp only [World.size_alloc, World.size_drew, World.size_setCell]; omega) | omega)))); (clear hHeld; rename _ => hHeld; clear hK K); (try simp only [Act.put, List.getElem_toArray, List.getElem_cons_succ, List.getElem_cons_zero, List.setIfInBounds_toArray, List.set_cons_zero, List.set_cons_succ])
      (refine wpAnyH_ready (rs := [3]) (by kernel_rfl) (by simp) ?_; refine AllReadyH.cons rfl (fun K hK => ?_) AllReadyH.nil; go_simp; (go_at_call 115; refine (l02Cosine_any _ _ _ _ _ HC.out).mono ?_; rintro e wn ⟨rfl, hb⟩; first | (have h2 := after_call2 hb hcl hfr hlt (by ((repeat' (first | (with_reducible exact Below.refl _ _) | (with_reducible refine Below.alloc ?_ ?_ _) | (with_reducible refine Below.setCell ?_ ?_ _) | (with_reducible refine Below.drew ?_) | (with_reducible refine below_drewN ?_ _) | (with_reducible assumption) | (with_reducible refine below_after (by with_reducible assumption) ?_) | go_size)); done)); obtain ⟨hclx, hfrx, hltx, hsz⟩ := after_call hb; (try simp only [World.size_alloc, World.size_setCell, World.size_drew] at hclx hfrx hltx hsz); (try (have hszl := Nat.lt_of_succ_le hsz)); obtain ⟨hcl, hfr, hlt⟩ := h2) | (obtain ⟨hcl, hfr, hlt, hsz⟩ := after_call hb; (try simp only [World.size_alloc, World.size_setCell, World.size_drew] at hcl hfr hlt hsz))); refine hK.out _ _ ?_ (fun hHeld2 => ?_); focus ((try dsimp only); (first | (go_keep; done) | ((repeat' apply And.intro) <;> first | (go_keep; done) | (go_cell; done) | (refine (Below.cell (B := w.heap.size + 1) ?_ ?_).trans ?_; focus (repeat' (first | (with_reducible refine Below.alloc ?_ ?_ _) | (with_reducible refine Below.setCell ?_ ?_ _) | (with_reducible refine Below.drew ?_) | (with_reducible exact Below.refl _ _) | (first | omega | (simp only [World.size_alloc, World.size_drew, World.size_setCell]; omega) | (simp; omega)))); focus (first | omega | (simp only [World.size_alloc, World.size_drew, World.size_setCell]; omega) | (simp; omega)); first | (go_keep; done) | ((refine (Below.cell (by with_reducible assumption) ?_).trans ?_) <;> first | (go_keep; done) | (first | omega | (simp only [World.size_alloc, World.size_drew, World.size_setCell]; omega) | (simp; omega)))) | ((refine (Below.cell (by with_reducible assumption) ?_).trans ?_) <;> first | (go_keep; done) | (simp only [World.size_alloc, World.size_drew, World.size_setCell]; omega) | omega) | (simp only [World.size_alloc, World.size_drew, World.size_setCell]; omega) | omega)))); (clear hHeld; rename _ => hHeld; clear hK K); (try simp only [Act.put, List.getElem_toArray, List.getElem_cons_succ, List.getElem_cons_zero, List.setIfInBounds_toArray, List.set_cons_zero, List.set_cons_succ])
      have HBp : Hid (Below w.heap.size w wn) := by show Below w.heap.size w wn; (repeat' (first | (with_reducible exact Below.refl _ _) | (with_reducible refine Below.alloc ?_ ?_ _) | (with_reducible refine Below.setCell ?_ ?_ _) | (with_reducible refine Below.drew ?_) | (with_reducible refine below_drewN ?_ _) | (with_reducible assumption) | (with_reducible refine below_after (by with_reducible assumption) ?_) | go_size))
      refine wpAnyH_ready (rs := [4]) (by kernel_rfl) (by simp) ?_; refine AllReadyH.cons rfl (fun K hK => ?_) AllReadyH.nil
      go_simp
      (go_at_call 124; refine (HLg.out _).mono ?_; rintro e w3 ⟨v, rfl, ho, hb3⟩)
      have HO := Lib.hid (own_monoB ho HBp.out.size)
      have HB3 := Lib.hid (below_after hb3 HBp.out)
      have hsx : w.heap.size < wn.heap.size := hHeld.2.2.2.2
      refine hK.out _ _ ?_ (fun hHeld2 => ?_)
      · obtain ⟨q0, q1, q2, q3, q4⟩ := hHeld
        exact ⟨(hb3.cell (p := ⟨w.heap.size, 0, none⟩) q4).trans q0, (hb3.cell (p := ⟨w.heap.size, 1, none⟩) q4).trans q1, (hb3.cell (p := ⟨w.heap.size, 2, none⟩) q4).trans q2, (hb3.cell (p := ⟨w.heap.size, 3, none⟩) q4).trans q3, Nat.lt_of_lt_of_le q4 hb3.size⟩
      (clear hHeld; rename _ => hHeld; clear hK K)
      (try simp only [Act.put, List.getElem_toArray, List.getElem_cons_succ, List.getElem_cons_zero, List.setIfInBounds_toArray, List.set_cons_zero, List.set_cons_succ])
      (refine wpAnyH_take (i := 5) (v := ?_) rfl (by kernel_rfl) (by kernel_rfl) (by kernel_rfl) (fun _ _ _ h => h) (Or.inl ⟨rfl, ?_⟩) (by assumption) ?_; rotate_left; focus (intro w hSw; (try dsimp only at hSw); go_simp; try (with_reducible rfl))); (try simp only [Act.put, List.getElem_toArray, List.getElem_cons_succ, List.getElem_cons_zero, List.setIfInBounds_toArray, List.set_cons_zero, List.set_cons_succ])
      (refine wpAnyH_take (i := 6) (v := ?_) rfl (by kernel_rfl) (by kernel_rfl) (by kernel_rfl) (fun _ _ _ h => h) (Or.inl ⟨rfl, ?_⟩) (by assumption) ?_; rotate_left; focus (intro w hSw; (try dsimp only at hSw); go_simp; try (with_reducible rfl))); (try simp only [Act.put, List.getElem_toArray, List.getElem_cons_succ, List.getElem_cons_zero, List.setIfInBounds_toArray, List.set_cons_zero, List.set_cons_succ])
      refine wpAnyH_done (by kernel_rfl) ?_ _
      go_wp2
      go_ret2
      exact ⟨v, rfl, HO.out, HB3.out⟩
end Go.Proofs.Ytoenlpkphekbnaa
