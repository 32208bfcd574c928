/-
  Contracts of chapter 3's SailPoints in the model: points, numbers and the code (own work).
-/
import Derived.Test.YtjiaokcbhpmodaaSlM
import Derived.Test.YtjiaokcbhpmodaaSlI
namespace Go.Proofs.Ytjiaokcbhpmodaa
open Go.ChangeShapes Go.WideShapes Go.ChangeAt Go.RowKit
set_option linter.unusedVariables false
set_option linter.unusedSimpArgs false

def RetPNC (w : World) (ps : List (Int × Int)) (ns : List Int) (c : Int) (e : Ending) (w' : World) : Prop :=
  ∃ v1 v2, e = .returned (.tuple #[v1, v2, .int .i64 c]) ∧ OwnF w.heap.size w' v1 ps.length (flat ps) ∧ OwnI w.heap.size w' v2 ns ∧ Below w.heap.size w w'
theorem l03Code_any (a b c d : Int) (w : World) : Calls Try.prog 46 #[.agg #[.int .i64 a, .int .i64 b], .agg #[.int .i64 c, .int .i64 d]] w (RetPNC w (slL (a, b) (c, d)) (cnL (a, b) (c, d)) (slC (a, b) (c, d))) := by
  cases h : isAn (a, b) (c, d)
  · rw [slL_no h, slC_no h, cnL_no h]
    have HA := Lib.hid h
    clear h
    go_enter Try.func46, Try.ntmps46
    go_wp2_with ((go_at_call 43; refine (l03Is_any _ _ _ _ _).mono ?_; rintro e wn ⟨rfl, hb⟩; first | (have h2 := after_call2 hb hcl hfr hlt (by ((repeat' (first | (with_reducible exact Below.refl _ _) | (with_reducible refine Below.alloc ?_ ?_ _) | (with_reducible refine Below.setCell ?_ ?_ _) | (with_reducible refine Below.drew ?_) | (with_reducible refine below_drewN ?_ _) | (with_reducible assumption) | (with_reducible refine below_after (by with_reducible assumption) ?_) | go_size)); done)); obtain ⟨hclx, hfrx, hltx, hsz⟩ := after_call hb; (try simp only [World.size_alloc, World.size_setCell, World.size_drew] at hclx hfrx hltx hsz); (try (have hszl := Nat.lt_of_succ_le hsz)); obtain ⟨hcl, hfr, hlt⟩ := h2) | (obtain ⟨hcl, hfr, hlt, hsz⟩ := after_call hb; (try simp only [World.size_alloc, World.size_setCell, World.size_drew] at hcl hfr hlt hsz))); (try rw [HA.out]))
    go_returns
    exact ⟨_, _, rfl, World.ownsRow_nil _ _ _ _, World.ownsRow_nil _ _ _ _, by (repeat' (first | (with_reducible exact Below.refl _ _) | (with_reducible refine Below.alloc ?_ ?_ _) | (with_reducible refine Below.setCell ?_ ?_ _) | (with_reducible refine Below.drew ?_) | (with_reducible refine below_drewN ?_ _) | (with_reducible assumption) | (with_reducible refine below_after (by with_reducible assumption) ?_) | go_size))⟩
  · by_cases hl : (slI (a, b) (c, d)).length ≤ 2000
    · rw [slL_yes h hl, slC_yes h hl, cnL_yes h hl]
      have HA := Lib.hid h
      have hS : ∀ w, Calls Try.prog 62 #[.agg #[.int .i64 a, .int .i64 b], .agg #[.int .i64 c, .int .i64 d]] w (RetPNB w (slI (a, b) (c, d)) (cnI (a, b) (c, d)) true) := by
        intro w
        have := l03Sail_an a b c d w h
        rw [if_pos hl, if_pos hl, decide_eq_true hl] at this
        exact this
      have HS := Lib.hid hS
      clear h hl hS
      go_enter Try.func46, Try.ntmps46
      go_wp2_with (first | ((go_at_call 43; refine (l03Is_any _ _ _ _ _).mono ?_; rintro e wn ⟨rfl, hb⟩; first | (have h2 := after_call2 hb hcl hfr hlt (by ((repeat' (first | (with_reducible exact Below.refl _ _) | (with_reducible refine Below.alloc ?_ ?_ _) | (with_reducible refine Below.setCell ?_ ?_ _) | (with_reducible refine Below.drew ?_) | (with_reducible refine below_drewN ?_ _) | (with_reducible assumption) | (with_reducible refine below_after (by with_reducible assumption) ?_) | go_size)); done)); obtain ⟨hclx, hfrx, hltx, hsz⟩ := after_call hb; (try simp only [World.size_alloc, World.size_setCell, World.size_drew] at hclx hfrx hltx hsz); (try (have hszl := Nat.lt_of_succ_le hsz)); obtain ⟨hcl, hfr, hlt⟩ := h2) | (obtain ⟨hcl, hfr, hlt, hsz⟩ := after_call hb; (try simp only [World.size_alloc, World.size_setCell, World.size_drew] at hcl hfr hlt hsz))); (try rw [HA.out])) | (go_at_call 62; refine (HS.out _).mono ?_; rintro e wn ⟨v1, v2, rfl, hp, hn, hb3⟩; obtain ⟨va, vc, rfl, _⟩ := own_viewF hp; obtain ⟨na, nc, rfl, _⟩ := own_view hn))
      go_returns
      exact ⟨_, _, rfl, own_up hp (by simp only [World.size_alloc, World.size_setCell] at *; omega), own_up hn (by simp only [World.size_alloc, World.size_setCell] at *; omega), by (repeat' (first | (with_reducible exact Below.refl _ _) | (with_reducible refine Below.alloc ?_ ?_ _) | (with_reducible refine Below.setCell ?_ ?_ _) | (with_reducible refine Below.drew ?_) | (with_reducible refine below_drewN ?_ _) | (with_reducible assumption) | (with_reducible refine below_after (by with_reducible assumption) ?_) | go_size))⟩
    · have hl2 : 2000 < (slI (a, b) (c, d)).length := by omega
      rw [slL_limit h hl2, slC_limit h hl2, cnL_limit h hl2]
      have HA := Lib.hid h
      have hS : ∀ w, Calls Try.prog 62 #[.agg #[.int .i64 a, .int .i64 b], .agg #[.int .i64 c, .int .i64 d]] w (RetPNB w [] [] false) := by
        intro w
        have := l03Sail_an a b c d w h
        rw [if_neg hl, if_neg hl, decide_eq_false hl] at this
        exact this
      have HS := Lib.hid hS
      clear h hl hl2 hS
      go_enter Try.func46, Try.ntmps46
      go_wp2_with (first | ((go_at_call 43; refine (l03Is_any _ _ _ _ _).mono ?_; rintro e wn ⟨rfl, hb⟩; first | (have h2 := after_call2 hb hcl hfr hlt (by ((repeat' (first | (with_reducible exact Below.refl _ _) | (with_reducible refine Below.alloc ?_ ?_ _) | (with_reducible refine Below.setCell ?_ ?_ _) | (with_reducible refine Below.drew ?_) | (with_reducible refine below_drewN ?_ _) | (with_reducible assumption) | (with_reducible refine below_after (by with_reducible assumption) ?_) | go_size)); done)); obtain ⟨hclx, hfrx, hltx, hsz⟩ := after_call hb; (try simp only [World.size_alloc, World.size_setCell, World.size_drew] at hclx hfrx hltx hsz); (try (have hszl := Nat.lt_of_succ_le hsz)); obtain ⟨hcl, hfr, hlt⟩ := h2) | (obtain ⟨hcl, hfr, hlt, hsz⟩ := after_call hb; (try simp only [World.size_alloc, World.size_setCell, World.size_drew] at hcl hfr hlt hsz))); (try rw [HA.out])) | (go_at_call 62; refine (HS.out _).mono ?_; rintro e wn ⟨v1, v2, rfl, hp, hn, hb3⟩; obtain ⟨va, vc, rfl, _⟩ := own_viewF hp; obtain ⟨na, nc, rfl, _⟩ := own_view hn))
      go_returns
      exact ⟨_, _, rfl, World.ownsRow_nil _ _ _ _, World.ownsRow_nil _ _ _ _, by (repeat' (first | (with_reducible exact Below.refl _ _) | (with_reducible refine Below.alloc ?_ ?_ _) | (with_reducible refine Below.setCell ?_ ?_ _) | (with_reducible refine Below.drew ?_) | (with_reducible refine below_drewN ?_ _) | (with_reducible assumption) | (with_reducible refine below_after (by with_reducible assumption) ?_) | go_size))⟩
theorem spec_SailPoints_any (a b c d : Int) (w : World) : Calls Try.prog 17 #[.agg #[.int .i64 a, .int .i64 b], .agg #[.int .i64 c, .int .i64 d]] w (RetPC w (slL (a, b) (c, d)) (slC (a, b) (c, d))) := by
  go_enter Try.func17, Try.ntmps17
  go_wp2_with (go_at_call 46; refine (l03Code_any _ _ _ _ _).mono ?_; rintro e wn ⟨v1, v2, rfl, hp, hn, hb3⟩; obtain ⟨va, vc, rfl, _⟩ := own_viewF hp; obtain ⟨na, nc, rfl, _⟩ := own_view hn)
  go_returns
  exact ⟨_, rfl, own_up hp (by simp only [World.size_alloc, World.size_setCell] at *; omega), by (repeat' (first | (with_reducible exact Below.refl _ _) | (with_reducible refine Below.alloc ?_ ?_ _) | (with_reducible refine Below.setCell ?_ ?_ _) | (with_reducible refine Below.drew ?_) | (with_reducible refine below_drewN ?_ _) | (with_reducible assumption) | (with_reducible refine below_after (by with_reducible assumption) ?_) | go_size))⟩
end Go.Proofs.Ytjiaokcbhpmodaa
