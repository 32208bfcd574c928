/-
  ParentsOf: the model and the program, by one contract (own work).
-/
import Derived.Test.YtcaleapedomfmaaDoorNbParentsOf
import Derived.Test.YtcaleapedomfmaaDoorPar
import Derived.Test.YtcaleapedomfmaaDoorNbS
namespace Go.Proofs.YtcaleapedomfmaaDoor
open Go.ChangeShapes Go.WideShapes Go.ChangeAt Go.RowKit Go.Shelf
set_option linter.unusedVariables false
set_option maxRecDepth 100000
set_option linter.unusedSimpArgs false
set_option maxRecDepth 100000

/-- The code, and the parents one number behind the other. -/
def pnK (a b : Int) : Int := if allFr [(a, b)] = true then (if b < 2 then 5 else 0) else frE [(a, b)]
def pnN (a b : Int) : Nat := if pnK a b = 0 then 2 else 0
def pnZ (a b : Int) : List Int := if pnK a b = 0 then [plX a b, plY a b, a - plX a b, b - plY a b] else []
theorem pnN_len (a b : Int) : pnN a b ≤ 8388608 := by unfold pnN; split <;> omega
theorem pn_no {a b c : Int} (h : pnK a b = c) (hc : c ≠ 0) : pnN a b = 0 ∧ pnZ a b = [] := by unfold pnN pnZ; rw [h, if_neg hc, if_neg hc]; exact ⟨rfl, rfl⟩
theorem pn_yes {a b : Int} (h : pnK a b = 0) : pnN a b = 2 ∧ pnZ a b = [plX a b, plY a b, a - plX a b, b - plY a b] := by unfold pnN pnZ; rw [if_pos h, if_pos h]; exact ⟨rfl, rfl⟩
theorem pnK_fr {a b : Int} (h : allFr [(a, b)] = false) : pnK a b = frE [(a, b)] := by unfold pnK; rw [h]; rfl
theorem pnK_low {a b : Int} (h : allFr [(a, b)] = true) (k : b < 2) : pnK a b = 5 := by unfold pnK; rw [if_pos h, if_pos k]
theorem pnK_ok {a b : Int} (h : allFr [(a, b)] = true) (k : ¬ b < 2) : pnK a b = 0 := by unfold pnK; rw [if_pos h, if_neg k]
theorem own_lit2p (w : World) (B : Nat) (z0 z1 z2 z3 : Int) (hb : B ≤ w.heap.size) : OwnF B (w.alloc (.cells #[.int .i64 z0, .int .i64 z1, .int .i64 z2, .int .i64 z3] 25)) (.slice (some ⟨w.heap.size, 0, none⟩) 2 2) 2 [z0, z1, z2, z3] := World.ownsRow_lit w #[.int .i64 z0, .int .i64 z1, .int .i64 z2, .int .i64 z3] 2 hb (by decide) rfl
theorem own_lit2q (w : World) (B k : Nat) (z0 z1 z2 z3 : Int) (hk : k = w.heap.size) (hb : B ≤ k) : OwnF B (w.alloc (.cells #[.int .i64 z0, .int .i64 z1, .int .i64 z2, .int .i64 z3] 25)) (.slice (some ⟨k, 0, none⟩) 2 2) 2 [z0, z1, z2, z3] := by
  subst hk
  exact own_lit2p w B z0 z1 z2 z3 hb
theorem own_nilp (w : World) (B : Nat) : OwnF B w (.slice none 0 0) 0 [] := World.ownsRow_nil _ _ _ _
set_option maxHeartbeats 1600000 in
theorem spec_ParentsOf_any (a b : Int) (w : World) :
    Calls Tryd.prog 23 #[.agg #[.int .i64 a, .int .i64 b]] w fun e w' => ∃ v, e = .returned (.tuple #[v, .int .i64 (pnK a b)]) ∧ OwnF w.heap.size w' v (pnN a b) (pnZ a b) ∧ Below w.heap.size w w' := by
  cases h : allFr [(a, b)]
  · have hk := pnK_fr h
    obtain ⟨e1, e2⟩ := pn_no hk (frE_ne h)
    rw [hk, e1, e2]
    refine (spec_ParentsOf_fail a b _ w h rfl).mono ?_
    rintro e w' ⟨rfl, hb⟩
    exact ⟨_, rfl, own_nilp _ _, hb⟩
  · have HK := Lib.hid (frE_yes h)
    have f0 := frs1 h
    by_cases hb : b < 2
    · have hk := pnK_low h hb
      obtain ⟨e1, e2⟩ := pn_no hk (by decide)
      rw [hk, e1, e2]
      clear h f0 hk e1 e2
      have hs20 : w.heap.size < w.heap.size + 1 + 1 := (by omega); have hs30 : w.heap.size < w.heap.size + 1 + 1 + 1 := (by omega); have hs31 : w.heap.size + 1 < w.heap.size + 1 + 1 + 1 := (by omega)
      go_enter Tryd.func23, Tryd.ntmps23
      go_wp2_with (go_at_call 39; refine (l05Code1_any a b 0 _ _ _ HK.out (by simp) (by go_cell) (by go_cell)).mono ?_; rintro e wn ⟨rfl, hb⟩; first | (have h2 := after_call2 hb hcl hfr hlt (by ((repeat' (first | (with_reducible exact Below.refl _ _) | (with_reducible refine Below.alloc ?_ ?_ _) | (with_reducible refine Below.setCell ?_ ?_ _) | (with_reducible refine Below.drew ?_) | (with_reducible refine below_drewN ?_ _) | (with_reducible assumption) | (with_reducible refine below_after (by with_reducible assumption) ?_) | go_size)); done)); obtain ⟨hclx, hfrx, hltx, hsz⟩ := after_call hb; (try simp only [World.size_alloc, World.size_setCell, World.size_drew] at hclx hfrx hltx hsz); (try (have hszl := Nat.lt_of_succ_le hsz)); obtain ⟨hcl, hfr, hlt⟩ := h2) | (obtain ⟨hcl, hfr, hlt, hsz⟩ := after_call hb; (try simp only [World.size_alloc, World.size_setCell, World.size_drew] at hcl hfr hlt hsz)))
      go_ret2
      exact ⟨_, rfl, own_nilp _ _, by (repeat' (first | (with_reducible exact Below.refl _ _) | (with_reducible refine Below.alloc ?_ ?_ _) | (with_reducible refine Below.setCell ?_ ?_ _) | (with_reducible refine Below.drew ?_) | (with_reducible refine below_drewN ?_ _) | (with_reducible assumption) | (with_reducible refine below_after (by with_reducible assumption) ?_) | go_size))⟩
    · have hk := pnK_ok h hb
      obtain ⟨e1, e2⟩ := pn_yes hk
      rw [hk, e1, e2]
      have HP := Lib.hid (fun w => l05Parents_any a b w f0 (by omega))
      clear h f0 hk e1 e2
      generalize plX a b = X at *
      generalize plY a b = Y at *
      have hs20 : w.heap.size < w.heap.size + 1 + 1 := (by omega); have hs30 : w.heap.size < w.heap.size + 1 + 1 + 1 := (by omega); have hs31 : w.heap.size + 1 < w.heap.size + 1 + 1 + 1 := (by omega)
      go_enter Tryd.func23, Tryd.ntmps23
      go_wp2_with (first | (go_at_call 39; refine (l05Code1_any a b 0 _ _ _ HK.out (by simp) (by go_cell) (by go_cell)).mono ?_; rintro e wn ⟨rfl, hb⟩; first | (have h2 := after_call2 hb hcl hfr hlt (by ((repeat' (first | (with_reducible exact Below.refl _ _) | (with_reducible refine Below.alloc ?_ ?_ _) | (with_reducible refine Below.setCell ?_ ?_ _) | (with_reducible refine Below.drew ?_) | (with_reducible refine below_drewN ?_ _) | (with_reducible assumption) | (with_reducible refine below_after (by with_reducible assumption) ?_) | go_size)); done)); obtain ⟨hclx, hfrx, hltx, hsz⟩ := after_call hb; (try simp only [World.size_alloc, World.size_setCell, World.size_drew] at hclx hfrx hltx hsz); (try (have hszl := Nat.lt_of_succ_le hsz)); obtain ⟨hcl, hfr, hlt⟩ := h2) | (obtain ⟨hcl, hfr, hlt, hsz⟩ := after_call hb; (try simp only [World.size_alloc, World.size_setCell, World.size_drew] at hcl hfr hlt hsz))) | (go_at_call 55; refine (HP.out _).mono ?_; rintro e wn ⟨rfl, hb⟩; first | (have h2 := after_call2 hb hcl hfr hlt (by ((repeat' (first | (with_reducible exact Below.refl _ _) | (with_reducible refine Below.alloc ?_ ?_ _) | (with_reducible refine Below.setCell ?_ ?_ _) | (with_reducible refine Below.drew ?_) | (with_reducible refine below_drewN ?_ _) | (with_reducible assumption) | (with_reducible refine below_after (by with_reducible assumption) ?_) | go_size)); done)); obtain ⟨hclx, hfrx, hltx, hsz⟩ := after_call hb; (try simp only [World.size_alloc, World.size_setCell, World.size_drew] at hclx hfrx hltx hsz); (try (have hszl := Nat.lt_of_succ_le hsz)); obtain ⟨hcl, hfr, hlt⟩ := h2) | (obtain ⟨hcl, hfr, hlt, hsz⟩ := after_call hb; (try simp only [World.size_alloc, World.size_setCell, World.size_drew] at hcl hfr hlt hsz))))
      go_ret2
      refine ⟨_, rfl, own_lit2q _ _ _ _ _ _ _ ?_ ?_, by (repeat' (first | (with_reducible exact Below.refl _ _) | (with_reducible refine Below.alloc ?_ ?_ _) | (with_reducible refine Below.setCell ?_ ?_ _) | (with_reducible refine Below.drew ?_) | (with_reducible refine below_drewN ?_ _) | (with_reducible assumption) | (with_reducible refine below_after (by with_reducible assumption) ?_) | go_size))⟩
      · simp only [World.size_alloc, World.size_setCell]
      · omega
set_option maxHeartbeats 1600000 in
theorem cl_ParentsOf_ok (p : Nat) (a b : Int) (a0 a1 : Addr) (W : World) (hs : Snt W a0 a1) (h : allFr [(a, b)] = true) (c0 : W.cell? ⟨p, 0, none⟩ = some (.int .i64 a)) (d0 : W.cell? ⟨p, 1, none⟩ = some (.int .i64 b)) :
    Calls Tryd.prog 57 #[.pointer (some ⟨p, 0, none⟩)] W fun e w' => ∃ v, e = .returned (.tuple #[v, .int .i64 (pnK a b)]) ∧ OwnF W.heap.size w' v (pnN a b) (pnZ a b) ∧ Below W.heap.size W w' := by
  have HE := Lib.hid (demE_yes (a0 := a0) (a1 := a1) h)
  have HS := Lib.hid hs
  have f0 := frs1 h
  have lp : p < W.heap.size := World.block_lt_of_cell? _ _ c0
  have HX : Hid (∀ w', Below W.heap.size W w' → w'.cell? ⟨p, 0, none⟩ = some (.int .i64 a) ∧ w'.cell? ⟨p, 1, none⟩ = some (.int .i64 b)) := fun w' hw => ⟨(hw.cell (p := ⟨p, 0, none⟩) lp).trans c0, (hw.cell (p := ⟨p, 1, none⟩) lp).trans d0⟩
  by_cases hb : b < 2
  · have hk := pnK_low h hb
    obtain ⟨e1, e2⟩ := pn_no hk (by decide)
    rw [hk, e1, e2]
    clear h f0 hk e1 e2 hs
    go_enter Tryd.func57, Tryd.ntmps57
    go_wp2_with fail
    go_at_call 43
    refine (demand1_any a b a0 a1 _ _ _ _ HE.out (HS.out.below (by (repeat' (first | (with_reducible exact Below.refl _ _) | (with_reducible refine Below.alloc ?_ ?_ _) | (with_reducible refine Below.setCell ?_ ?_ _) | (with_reducible refine Below.drew ?_) | (with_reducible refine below_drewN ?_ _) | (with_reducible assumption) | (with_reducible refine below_after (by with_reducible assumption) ?_) | go_size)))) (by simp) (by go_cell) (by go_cell)).mono ?_
    rintro e w1 ⟨rfl, hb1⟩
    have hb2 : Below W.heap.size W w1 := below_after hb1 (by (repeat' (first | (with_reducible exact Below.refl _ _) | (with_reducible refine Below.alloc ?_ ?_ _) | (with_reducible refine Below.setCell ?_ ?_ _) | (with_reducible refine Below.drew ?_) | (with_reducible refine below_drewN ?_ _) | (with_reducible assumption) | (with_reducible refine below_after (by with_reducible assumption) ?_) | go_size)))
    clear hb1 c0 d0
    obtain ⟨c0, d0⟩ := HX.out _ hb2
    go_wp2_with fail
    go_ret2
    exact ⟨_, rfl, own_nilp _ _, hb2⟩
  · have hk := pnK_ok h hb
    obtain ⟨e1, e2⟩ := pn_yes hk
    rw [hk, e1, e2]
    have HP := Lib.hid (fun w => parentsOf_any a b w f0 (by omega))
    clear h f0 hk e1 e2 hs
    generalize plX a b = X at *
    generalize plY a b = Y at *
    go_enter Tryd.func57, Tryd.ntmps57
    go_wp2_with fail
    go_at_call 43
    refine (demand1_any a b a0 a1 _ _ _ _ HE.out (HS.out.below (by (repeat' (first | (with_reducible exact Below.refl _ _) | (with_reducible refine Below.alloc ?_ ?_ _) | (with_reducible refine Below.setCell ?_ ?_ _) | (with_reducible refine Below.drew ?_) | (with_reducible refine below_drewN ?_ _) | (with_reducible assumption) | (with_reducible refine below_after (by with_reducible assumption) ?_) | go_size)))) (by simp) (by go_cell) (by go_cell)).mono ?_
    rintro e w1 ⟨rfl, hb1⟩
    have hb2 : Below W.heap.size W w1 := below_after hb1 (by (repeat' (first | (with_reducible exact Below.refl _ _) | (with_reducible refine Below.alloc ?_ ?_ _) | (with_reducible refine Below.setCell ?_ ?_ _) | (with_reducible refine Below.drew ?_) | (with_reducible refine below_drewN ?_ _) | (with_reducible assumption) | (with_reducible refine below_after (by with_reducible assumption) ?_) | go_size)))
    have HB2 := Lib.hid hb2
    clear hb1 hb2 c0 d0
    obtain ⟨c0, d0⟩ := HX.out _ HB2.out
    go_wp2_with fail
    go_at_call 58
    refine (HP.out _).mono ?_
    rintro e w2 ⟨rfl, hb1⟩
    have HB3 : Hid (Below W.heap.size W w2) := below_after hb1 HB2.out
    have hz := HB3.out.size
    clear hb1 c0 d0
    go_wp2_with fail
    go_ret2
    have hb3 := HB3.out
    refine ⟨_, rfl, own_lit2q _ _ _ _ _ _ _ ?_ ?_, by (repeat' (first | (with_reducible exact Below.refl _ _) | (with_reducible refine Below.alloc ?_ ?_ _) | (with_reducible refine Below.setCell ?_ ?_ _) | (with_reducible refine Below.drew ?_) | (with_reducible refine below_drewN ?_ _) | (with_reducible assumption) | (with_reducible refine below_after (by with_reducible assumption) ?_) | go_size))⟩
    · simp only [World.size_alloc, World.size_setCell]
    · omega
theorem impl_ParentsOf_any (a b : Int) (a0 a1 : Addr) (w : World) (hs : Snt w a0 a1) :
    Calls Tryd.prog 24 #[.agg #[.int .i64 a, .int .i64 b]] w fun e w' => ∃ v, e = .returned (.tuple #[v, .int .i64 (pnK a b)]) ∧ OwnF w.heap.size w' v (pnN a b) (pnZ a b) ∧ Below w.heap.size w w' := by
  cases h : allFr [(a, b)]
  · have hk := pnK_fr h
    obtain ⟨e1, e2⟩ := pn_no hk (frE_ne h)
    rw [hk, e1, e2]
    refine (impl_ParentsOf_fail a b _ a0 a1 w hs h rfl).mono ?_
    rintro e w' ⟨rfl, hb⟩
    exact ⟨_, rfl, own_nilp _ _, hb⟩
  · exact impl_ParentsOf_of a b _ _ _ a0 a1 w hs (fun p W hs c0 d0 => cl_ParentsOf_ok p a b a0 a1 W hs h c0 d0)
end Go.Proofs.YtcaleapedomfmaaDoor
