/-
  Cycles of forms as the functions answer (own work).
-/
import Derived.Test.YtohnmogejidpdaaFoW
import Derived.Test.YtohnmogejidpdaaOwn
namespace Go.Proofs.Ytohnmogejidpdaa
open Go.ChangeShapes Go.WideShapes Go.ChangeAt Go.RowKit
set_option linter.unusedVariables false
set_option linter.unusedSimpArgs false
set_option maxRecDepth 100000

def cfL (a b c : Int) : List Tr := if isFm a b c = true then cyT (frT (a, b, c)) else []
theorem cfL_len (a b c : Int) : (cfL a b c).length ≤ 8388608 := by
  unfold cfL
  split
  · have := cyT_len (frT (a, b, c)); omega
  · simp
theorem impl_CycleOfForm_any (a b c : Int) (w : World) : Calls Try.prog 39 #[.agg #[.int .i64 a, .int .i64 b, .int .i64 c]] w fun e w' => ∃ v, e = .returned (.tuple #[v, .int .i64 (fo1 (isFm a b c))]) ∧ OwnFo w.heap.size w' v (cfL a b c).length (flT (cfL a b c)) ∧ Below w.heap.size w w' := by
  cases hf : isFm a b c
  · have e : cfL a b c = [] := by unfold cfL; rw [if_neg (by rw [hf]; decide)]
    rw [e]
    have hs20 : w.heap.size < w.heap.size + 1 + 1 := (by omega)
    go_enter Try.func39, Try.ntmps39
    go_wp2_with (first | (go_at_call 30; refine (impl_IsForm_any _ _ _ _).mono ?_; rintro e wn ⟨rfl, hb⟩; first | (have h2 := after_call2 hb hcl hfr hlt (by ((repeat' (first | (with_reducible exact Below.refl _ _) | (with_reducible refine Below.alloc ?_ ?_ _) | (with_reducible refine Below.setCell ?_ ?_ _) | (with_reducible refine Below.drew ?_) | (with_reducible refine below_drewN ?_ _) | (with_reducible assumption) | (with_reducible refine below_after (by with_reducible assumption) ?_) | go_size)); done)); obtain ⟨hclx, hfrx, hltx, hsz⟩ := after_call hb; (try simp only [World.size_alloc, World.size_setCell, World.size_drew] at hclx hfrx hltx hsz); (try (have hszl := Nat.lt_of_succ_le hsz)); obtain ⟨hcl, hfr, hlt⟩ := h2) | (obtain ⟨hcl, hfr, hlt, hsz⟩ := after_call hb; (try simp only [World.size_alloc, World.size_setCell, World.size_drew] at hcl hfr hlt hsz))))
    refine bodyPost_ret (v := .tuple #[.slice none 0 0, .int .i64 1]) (by simp (maxDischargeDepth := 8) [results, Try.results39, go_sem, *]) rfl ?_
    exact ⟨_, rfl, World.ownsRow_nil _ _ _ _, by (repeat' (first | (with_reducible exact Below.refl _ _) | (with_reducible refine Below.alloc ?_ ?_ _) | (with_reducible refine Below.setCell ?_ ?_ _) | (with_reducible refine Below.drew ?_) | (with_reducible refine below_drewN ?_ _) | (with_reducible assumption) | (with_reducible refine below_after (by with_reducible assumption) ?_) | go_size))⟩
  · have HF := Lib.hid hf
    have e : cfL a b c = cyT (frT (a, b, c)) := by unfold cfL; rw [if_pos hf]
    rw [e]
    have HC : Hid (∀ w, Calls Try.prog 82 #[.agg #[.int .i64 a, .int .i64 b, .int .i64 c]] w fun e w' => e = .returned (.agg #[.int .i64 (frT (a, b, c)).1, .int .i64 (frT (a, b, c)).2.1, .int .i64 (frT (a, b, c)).2.2]) ∧ Below w.heap.size w w') := fun w => firstReduced_any a b c w hf
    have HD : Hid (∀ w, Calls Try.prog 81 #[.agg #[.int .i64 (frT (a, b, c)).1, .int .i64 (frT (a, b, c)).2.1, .int .i64 (frT (a, b, c)).2.2]] w fun e w' => ∃ v, e = .returned v ∧ OwnT w.heap.size w' v (cyT (frT (a, b, c))) ∧ Below w.heap.size w w') := fun w => cycleFrom_any _ _ _ w (frT_facts (x := (a, b, c)) hf).1 (frT_facts (x := (a, b, c)) hf).2.1
    generalize frT (a, b, c) = Z at *
    clear e
    have hs20 : w.heap.size < w.heap.size + 1 + 1 := (by omega)
    go_enter Try.func39, Try.ntmps39
    go_wp2_with (first | (go_at_call 30; refine (impl_IsForm_any _ _ _ _).mono ?_; rintro e wn ⟨rfl, hb⟩; first | (have h2 := after_call2 hb hcl hfr hlt (by ((repeat' (first | (with_reducible exact Below.refl _ _) | (with_reducible refine Below.alloc ?_ ?_ _) | (with_reducible refine Below.setCell ?_ ?_ _) | (with_reducible refine Below.drew ?_) | (with_reducible refine below_drewN ?_ _) | (with_reducible assumption) | (with_reducible refine below_after (by with_reducible assumption) ?_) | go_size)); done)); obtain ⟨hclx, hfrx, hltx, hsz⟩ := after_call hb; (try simp only [World.size_alloc, World.size_setCell, World.size_drew] at hclx hfrx hltx hsz); (try (have hszl := Nat.lt_of_succ_le hsz)); obtain ⟨hcl, hfr, hlt⟩ := h2) | (obtain ⟨hcl, hfr, hlt, hsz⟩ := after_call hb; (try simp only [World.size_alloc, World.size_setCell, World.size_drew] at hcl hfr hlt hsz))) | (go_at_call 82; refine (HC.out _).mono ?_; rintro e wn ⟨rfl, hb⟩; first | (have h2 := after_call2 hb hcl hfr hlt (by ((repeat' (first | (with_reducible exact Below.refl _ _) | (with_reducible refine Below.alloc ?_ ?_ _) | (with_reducible refine Below.setCell ?_ ?_ _) | (with_reducible refine Below.drew ?_) | (with_reducible refine below_drewN ?_ _) | (with_reducible assumption) | (with_reducible refine below_after (by with_reducible assumption) ?_) | go_size)); done)); obtain ⟨hclx, hfrx, hltx, hsz⟩ := after_call hb; (try simp only [World.size_alloc, World.size_setCell, World.size_drew] at hclx hfrx hltx hsz); (try (have hszl := Nat.lt_of_succ_le hsz)); obtain ⟨hcl, hfr, hlt⟩ := h2) | (obtain ⟨hcl, hfr, hlt, hsz⟩ := after_call hb; (try simp only [World.size_alloc, World.size_setCell, World.size_drew] at hcl hfr hlt hsz))))
    go_at_call 81
    refine (HD.out _).mono ?_
    rintro e wq ⟨v, rfl, hv, hq⟩
    obtain ⟨va, vc, rfl⟩ := viewT hv
    obtain ⟨n, hn⟩ : ∃ n, (cyT Z).length = n := ⟨_, rfl⟩
    rw [hn] at hv ⊢
    have HV := Lib.hid hv
    have HN := Lib.hid hn
    clear hv hn
    go_wp2_with fail
    refine bodyPost_ret (v := .tuple #[.slice va n vc, .int .i64 0]) (by simp (maxDischargeDepth := 8) [results, Try.results39, go_sem, *]) rfl ?_
    refine ⟨_, rfl, ?_, ?_⟩
    · exact own_up HV.out (by simp only [World.size_alloc] at *; omega)
    · (repeat' (first | (with_reducible exact Below.refl _ _) | (with_reducible refine Below.alloc ?_ ?_ _) | (with_reducible refine Below.setCell ?_ ?_ _) | (with_reducible refine Below.drew ?_) | (with_reducible refine below_drewN ?_ _) | (with_reducible assumption) | (with_reducible refine below_after (by with_reducible assumption) ?_) | go_size))
theorem spec_CycleOfForm_any (a b c : Int) (w : World) : Calls Try.prog 38 #[.agg #[.int .i64 a, .int .i64 b, .int .i64 c]] w fun e w' => ∃ v, e = .returned (.tuple #[v, .int .i64 (fo1 (isFm a b c))]) ∧ OwnFo w.heap.size w' v (cfL a b c).length (flT (cfL a b c)) ∧ Below w.heap.size w w' := by
  cases hf : isFm a b c
  · have e : cfL a b c = [] := by unfold cfL; rw [if_neg (by rw [hf]; decide)]
    rw [e]
    have hs20 : w.heap.size < w.heap.size + 1 + 1 := (by omega)
    go_enter Try.func38, Try.ntmps38
    go_wp2_with (first | (go_at_call 70; refine (l06Is_any _ _ _ _).mono ?_; rintro e wn ⟨rfl, hb⟩; first | (have h2 := after_call2 hb hcl hfr hlt (by ((repeat' (first | (with_reducible exact Below.refl _ _) | (with_reducible refine Below.alloc ?_ ?_ _) | (with_reducible refine Below.setCell ?_ ?_ _) | (with_reducible refine Below.drew ?_) | (with_reducible refine below_drewN ?_ _) | (with_reducible assumption) | (with_reducible refine below_after (by with_reducible assumption) ?_) | go_size)); done)); obtain ⟨hclx, hfrx, hltx, hsz⟩ := after_call hb; (try simp only [World.size_alloc, World.size_setCell, World.size_drew] at hclx hfrx hltx hsz); (try (have hszl := Nat.lt_of_succ_le hsz)); obtain ⟨hcl, hfr, hlt⟩ := h2) | (obtain ⟨hcl, hfr, hlt, hsz⟩ := after_call hb; (try simp only [World.size_alloc, World.size_setCell, World.size_drew] at hcl hfr hlt hsz))))
    refine bodyPost_ret (v := .tuple #[.slice none 0 0, .int .i64 1]) (by simp (maxDischargeDepth := 8) [results, Try.results38, go_sem, *]) rfl ?_
    exact ⟨_, rfl, World.ownsRow_nil _ _ _ _, by (repeat' (first | (with_reducible exact Below.refl _ _) | (with_reducible refine Below.alloc ?_ ?_ _) | (with_reducible refine Below.setCell ?_ ?_ _) | (with_reducible refine Below.drew ?_) | (with_reducible refine below_drewN ?_ _) | (with_reducible assumption) | (with_reducible refine below_after (by with_reducible assumption) ?_) | go_size))⟩
  · have e : cfL a b c = cyT (frT (a, b, c)) := by unfold cfL; rw [if_pos hf]
    rw [e]
    have HD : Hid (∀ w, Calls Try.prog 80 #[.agg #[.int .i64 a, .int .i64 b, .int .i64 c]] w fun e w' => ∃ v, e = .returned v ∧ OwnT w.heap.size w' v (cyT (frT (a, b, c))) ∧ Below w.heap.size w w') := fun w => l06Cycle_any _ _ _ w hf
    generalize frT (a, b, c) = Z at *
    clear e
    have hs20 : w.heap.size < w.heap.size + 1 + 1 := (by omega)
    go_enter Try.func38, Try.ntmps38
    go_wp2_with (first | (go_at_call 70; refine (l06Is_any _ _ _ _).mono ?_; rintro e wn ⟨rfl, hb⟩; first | (have h2 := after_call2 hb hcl hfr hlt (by ((repeat' (first | (with_reducible exact Below.refl _ _) | (with_reducible refine Below.alloc ?_ ?_ _) | (with_reducible refine Below.setCell ?_ ?_ _) | (with_reducible refine Below.drew ?_) | (with_reducible refine below_drewN ?_ _) | (with_reducible assumption) | (with_reducible refine below_after (by with_reducible assumption) ?_) | go_size)); done)); obtain ⟨hclx, hfrx, hltx, hsz⟩ := after_call hb; (try simp only [World.size_alloc, World.size_setCell, World.size_drew] at hclx hfrx hltx hsz); (try (have hszl := Nat.lt_of_succ_le hsz)); obtain ⟨hcl, hfr, hlt⟩ := h2) | (obtain ⟨hcl, hfr, hlt, hsz⟩ := after_call hb; (try simp only [World.size_alloc, World.size_setCell, World.size_drew] at hcl hfr hlt hsz))))
    go_at_call 80
    refine (HD.out _).mono ?_
    rintro e wq ⟨v, rfl, hv, hq⟩
    obtain ⟨va, vc, rfl⟩ := viewT hv
    obtain ⟨n, hn⟩ : ∃ n, (cyT Z).length = n := ⟨_, rfl⟩
    rw [hn] at hv ⊢
    have HV := Lib.hid hv
    have HN := Lib.hid hn
    clear hv hn
    go_wp2_with fail
    refine bodyPost_ret (v := .tuple #[.slice va n vc, .int .i64 0]) (by simp (maxDischargeDepth := 8) [results, Try.results38, go_sem, *]) rfl ?_
    refine ⟨_, rfl, ?_, ?_⟩
    · exact own_up HV.out (by simp only [World.size_alloc] at *; omega)
    · (repeat' (first | (with_reducible exact Below.refl _ _) | (with_reducible refine Below.alloc ?_ ?_ _) | (with_reducible refine Below.setCell ?_ ?_ _) | (with_reducible refine Below.drew ?_) | (with_reducible refine below_drewN ?_ _) | (with_reducible assumption) | (with_reducible refine below_after (by with_reducible assumption) ?_) | go_size))
end Go.Proofs.Ytohnmogejidpdaa
