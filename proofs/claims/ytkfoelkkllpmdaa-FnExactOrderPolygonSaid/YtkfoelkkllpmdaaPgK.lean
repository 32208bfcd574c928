/-
  HullOf in the program at any list (own work).
-/
import Derived.Test.YtkfoelkkllpmdaaPgJ
namespace Go.Proofs.Ytkfoelkkllpmdaa
open Go.ChangeShapes Go.WideShapes Go.ChangeAt Go.RowKit
set_option linter.unusedVariables false
set_option maxRecDepth 100000
set_option linter.unusedSimpArgs false
set_option maxRecDepth 100000

def hulP (L : List (Int × Int)) : List (Int × Int) := lst (hsq L (hF L)) (hlP L)
def tlOk (L : List (Int × Int)) : Bool := decide (hlP L ≤ 12) && inC (hulP L)
def tlL (L : List (Int × Int)) : List (Int × Int) := if hlP L < 3 then [] else if tlOk L = true then hulP L else []
def tlC (L : List (Int × Int)) : Int := if hlP L < 3 then 5 else if tlOk L = true then 0 else 3
def huL (L : List (Int × Int)) : List (Int × Int) := if L.all isPt = true then (if L.length ≤ 100 then tlL L else []) else []
def huC (L : List (Int × Int)) : Int := if L.all isPt = true then (if L.length ≤ 100 then tlC L else 2) else 1
theorem hulP_len (L : List (Int × Int)) : (hulP L).length = hlP L := lst_len _ _
theorem hsq_nil (f : Int × Int) : ∀ k, hsq [] f k = f
  | 0 => rfl
  | k + 1 => by
    show pnx [] (hsq [] f k) = f
    rw [hsq_nil f k]; rfl
theorem hlP_nil : hlP [] = 1 := by
  unfold hlP
  show (if hsq [] (hF []) 1 = hF [] then 1 else _) = 1
  exact if_pos (hsq_nil _ 1)
theorem all_pt {L : List (Int × Int)} (h : L.all isPt = true) : ∀ k, k < L.length → isPt (L.getD k (0, 0)) = true := fun k hk => List.all_eq_true.1 h _ (getD_in hk)
theorem own_lower {w : World} {base base' : Nat} {e : TypeId} {size : Nat} {v : Value} {n : Nat} {xs : List Value} (h : w.ownsRow base e size v n xs) (hb : base' ≤ base) : w.ownsRow base' e size v n xs := by
  refine ⟨h.1, ?_⟩
  rcases h.2 with h' | ⟨g, cap, cur, h1, h2, h3⟩
  · exact .inl h'
  · exact .inr ⟨g, cap, cur, h1, by omega, h3⟩
theorem arePoints_nil (a : Option Addr) (cap : Nat) (w : World) : Calls Try.prog 58 #[.slice a 0 cap] w fun e w' => e = .returned (.bool true) ∧ Below w.heap.size w w' := by
  go_enter Try.func58, Try.ntmps58
  go_wp2_with fail
  go_loopw [7] (fun i wr => i = .int .i64 0 ∧ Below w.heap.size w wr) (fun i _ => 0)
  case atStart => exact ⟨rfl, Below.refl _ _⟩
  case round =>
    obtain ⟨rfl, hbel⟩ := hrel
    go_wp2_with fail
    go_ret
    exact ⟨rfl, hbel⟩
theorem arePoints_lv (a : Option Addr) (n cap : Nat) (ps : List (Int × Int)) (w : World) (h : LV w a n ps) : Calls Try.prog 58 #[.slice a n cap] w fun e w' => e = .returned (.bool (ps.all isPt)) ∧ Below w.heap.size w w' := by
  obtain ⟨hn, hm, hc⟩ := h
  by_cases h1 : 1 ≤ n
  · obtain ⟨g, rfl, hg, hc⟩ := hc h1
    rw [← hn] at hm ⊢
    exact arePoints_any ps g 0 cap w hg hm hc
  · have h0 : n = 0 := by omega
    subst h0
    have : ps = [] := List.length_eq_zero_iff.1 hn
    subst this
    exact arePoints_nil a cap w
theorem limited_yes (a : Option Addr) (n cap : Nat) (ps : List (Int × Int)) (w : World) (h1 : 1 ≤ n) (h : LV w a n ps) (hm : n ≤ 12) (hi : inC ps = true) : Calls Try.prog 60 #[.slice a n cap] w fun e w' => e = .returned (.tuple #[.slice a n cap, .int .i64 0]) ∧ Below w.heap.size w w' := by
  obtain ⟨hn, hmm, hc⟩ := h
  obtain ⟨g, rfl, hg, hc⟩ := hc h1
  have HA := Lib.hid (areCorners_any ps g cap n w hn.symm hg hmm hc)
  rw [hi] at HA
  clear hc hi hn
  have q : ¬ (12 : Int) < (n : Int) := by omega
  go_enter Try.func60, Try.ntmps60
  go_wp2_with (go_at_call 53; refine HA.out.mono ?_; rintro e w1 ⟨rfl, hb⟩)
  refine bodyPost_ret (v := .tuple #[.slice (some ⟨g, 0, none⟩) n cap, .int .i64 0]) (by simp (maxDischargeDepth := 8) [results, Try.results60, go_sem, *]) rfl ?_
  exact ⟨rfl, hb⟩
theorem limited_no (a : Option Addr) (n cap : Nat) (ps : List (Int × Int)) (w : World) (h1 : 1 ≤ n) (h : LV w a n ps) (hi : (decide (n ≤ 12) && inC ps) = false) : Calls Try.prog 60 #[.slice a n cap] w fun e w' => e = .returned (.tuple #[.slice none 0 0, .int .i64 3]) ∧ Below w.heap.size w w' := by
  obtain ⟨hn, hmm, hc⟩ := h
  obtain ⟨g, rfl, hg, hc⟩ := hc h1
  have HA := Lib.hid (areCorners_any ps g cap n w hn.symm hg hmm hc)
  by_cases hm : n ≤ 12
  · have hi2 : inC ps = false := by simpa [hm] using hi
    rw [hi2] at HA
    clear hc hi hn hi2
    have q : ¬ (12 : Int) < (n : Int) := by omega
    go_enter Try.func60, Try.ntmps60
    go_wp2_with (go_at_call 53; refine HA.out.mono ?_; rintro e w1 ⟨rfl, hb⟩)
    refine bodyPost_ret (v := .tuple #[.slice none 0 0, .int .i64 3]) (by simp (maxDischargeDepth := 8) [results, Try.results60, go_sem, *]) rfl ?_
    exact ⟨rfl, hb⟩
  · clear hc hi hn HA
    have q : (12 : Int) < (n : Int) := by omega
    go_enter Try.func60, Try.ntmps60
    go_wp2_with fail
    refine bodyPost_ret (v := .tuple #[.slice none 0 0, .int .i64 3]) (by simp (maxDischargeDepth := 8) [results, Try.results60, go_sem, *]) rfl ?_
    exact ⟨rfl, Below.refl _ _⟩
set_option maxHeartbeats 1600000 in
theorem impl_HullOf_any (a : Option Addr) (n cap : Nat) (ps : List (Int × Int)) (w : World) (h : LV w a n ps) : Calls Try.prog 23 #[.slice a n cap] w (RetPC w (huL ps) (huC ps)) := by
  have HA := Lib.hid (arePoints_lv a n cap ps w h)
  cases hp : ps.all isPt
  · have e1 : huL ps = [] := by unfold huL; rw [hp]; rfl
    have e2 : huC ps = 1 := by unfold huC; rw [hp]; rfl
    rw [e1, e2]
    rw [hp] at HA
    clear h hp e1 e2
    go_enter Try.func23, Try.ntmps23
    go_wp2_with (go_at_call 58; refine HA.out.mono ?_; rintro e w1 ⟨rfl, hb⟩)
    refine bodyPost_ret (v := .tuple #[.slice none 0 0, .int .i64 1]) (by simp (maxDischargeDepth := 8) [results, Try.results23, go_sem, *]) rfl ?_
    exact RetPC.nil hb
  · rw [hp] at HA
    obtain ⟨hn, hmm, hc⟩ := id h
    by_cases hm : n ≤ 100
    · have e1 : huL ps = tlL ps := by unfold huL; rw [hp, if_pos rfl, if_pos (by omega)]
      have e2 : huC ps = tlC ps := by unfold huC; rw [hp, if_pos rfl, if_pos (by omega)]
      rw [e1, e2]
      have q : ¬ (100 : Int) < (n : Int) := by omega
      by_cases h1 : 1 ≤ n
      · obtain ⟨g, rfl, hg, hc⟩ := hc h1
        have HH : Hid (∀ w1, Below w.heap.size w w1 → Calls Try.prog 59 #[.slice (some ⟨g, 0, none⟩) n cap] w1 (RetP w1 (hlP ps) (flat (hulP ps)))) := fun w1 hb =>
          hullOf_any g n cap ps w1 h1 hn hmm (by have := hb.size; omega) (ptCells_kept hc (hb.block g hg)) (by rw [← hn]; exact all_pt hp)
        have hml : 1 ≤ hlP ps ∧ hlP ps ≤ 13 := by
          have := clo_ok (hF ps) (hsq ps (hF ps)) 12 1
          exact ⟨this.1, this.2.1⟩
        by_cases h3 : hlP ps < 3
        · have e3 : tlL ps = [] := if_pos h3
          have e4 : tlC ps = 5 := if_pos h3
          rw [e3, e4]
          obtain ⟨M, hM⟩ : ∃ M, hlP ps = M := ⟨_, rfl⟩
          rw [hM] at HH h3
          have q3 : (M : Int) < 3 := by omega
          clear h hp hc hM e1 e2 e3 e4 hml hn
          go_enter Try.func23, Try.ntmps23
          go_wp2_with (first | (go_at_call 58; refine HA.out.mono ?_; rintro e w1 ⟨rfl, hb⟩) | (go_at_call 59; refine (HH.out _ hb).mono ?_; rintro e w2 ⟨v, rfl, ho, hb2⟩; obtain ⟨va, vc, rfl, _⟩ := own_viewF ho))
          refine bodyPost_ret (v := .tuple #[.slice none 0 0, .int .i64 5]) (by simp (maxDischargeDepth := 8) [results, Try.results23, go_sem, *]) rfl ?_
          exact RetPC.nil (below_after hb2 hb)
        · have q3 : ¬ ((hlP ps : Nat) : Int) < 3 := by omega
          have hln := hulP_len ps
          cases ho : tlOk ps
          · have e3 : tlL ps = [] := by unfold tlL; rw [if_neg h3, ho]; rfl
            have e4 : tlC ps = 3 := by unfold tlC; rw [if_neg h3, ho]; rfl
            rw [e3, e4]
            unfold tlOk at ho
            have HLM : Hid (∀ W va vc, LV W va (hlP ps) (hulP ps) → Calls Try.prog 60 #[.slice va (hlP ps) vc] W fun e w' => e = .returned (.tuple #[.slice none 0 0, .int .i64 3]) ∧ Below W.heap.size W w') := fun W va vc hl => limited_no va _ vc _ W hml.1 hl ho
            have HLN := Lib.hid hln
            obtain ⟨M, hM⟩ : ∃ M, hlP ps = M := ⟨_, rfl⟩
            rw [hM] at HH q3 HLM HLN hml
            clear h hp hc hM e1 e2 e3 e4 hn ho hln h3
            go_enter Try.func23, Try.ntmps23
            go_wp2_with (first | (go_at_call 58; refine HA.out.mono ?_; rintro e w1 ⟨rfl, hb⟩) | (go_at_call 59; refine (HH.out _ hb).mono ?_; rintro e w2 ⟨v, rfl, ho, hb2⟩; obtain ⟨va, vc, rfl, _⟩ := own_viewF ho) | (go_at_call 60; refine (HLM.out _ _ _ (LV.of_own ho HLN.out (by omega))).mono ?_; rintro e w3 ⟨rfl, hb3⟩))
            refine bodyPost_ret (v := .tuple #[.slice none 0 0, .int .i64 3]) (by simp (maxDischargeDepth := 8) [results, Try.results23, go_sem, *]) rfl ?_
            exact RetPC.nil (below_after hb3 (below_after hb2 hb))
          · have e3 : tlL ps = hulP ps := by unfold tlL; rw [if_neg h3, ho]; rfl
            have e4 : tlC ps = 0 := by unfold tlC; rw [if_neg h3, ho]; rfl
            rw [e3, e4]
            unfold tlOk at ho
            simp only [Bool.and_eq_true, decide_eq_true_eq] at ho
            have HLM : Hid (∀ W va vc, LV W va (hlP ps) (hulP ps) → Calls Try.prog 60 #[.slice va (hlP ps) vc] W fun e w' => e = .returned (.tuple #[.slice va (hlP ps) vc, .int .i64 0]) ∧ Below W.heap.size W w') := fun W va vc hl => limited_yes va _ vc _ W hml.1 hl ho.1 ho.2
            have HLN := Lib.hid hln
            obtain ⟨M, hM⟩ : ∃ M, hlP ps = M := ⟨_, rfl⟩
            rw [hM] at HH q3 HLM HLN hml
            clear h hp hc hM e1 e2 e3 e4 hn ho hln h3
            go_enter Try.func23, Try.ntmps23
            go_wp2_with (first | (go_at_call 58; refine HA.out.mono ?_; rintro e w1 ⟨rfl, hb⟩) | (go_at_call 59; refine (HH.out _ hb).mono ?_; rintro e w2 ⟨v, rfl, ho, hb2⟩; obtain ⟨va, vc, rfl, _⟩ := own_viewF ho) | (go_at_call 60; refine (HLM.out _ _ _ (LV.of_own ho HLN.out (by omega))).mono ?_; rintro e w3 ⟨rfl, hb3⟩))
            refine bodyPost_ret (v := .tuple #[.slice va M vc, .int .i64 0]) (by simp (maxDischargeDepth := 8) [results, Try.results23, go_sem, *]) rfl ?_
            exact ⟨_, rfl, by rw [HLN.out]; exact own_below (own_lower ho hb.size) hb3, below_after hb3 (below_after hb2 hb)⟩
      · have h0 : n = 0 := by omega
        subst h0
        have hps : ps = [] := List.length_eq_zero_iff.1 hn
        subst hps
        have e3 : tlL [] = [] := if_pos (by rw [hlP_nil]; omega)
        have e4 : tlC [] = 5 := if_pos (by rw [hlP_nil]; omega)
        rw [e3, e4]
        have HH : Hid (∀ w1, Calls Try.prog 59 #[.slice a 0 cap] w1 fun e w' => e = .returned (.slice none 0 0) ∧ Below w1.heap.size w1 w') := fun w1 => by
          go_enter Try.func59, Try.ntmps59
          go_wp2_with fail
          go_ret
          exact ⟨rfl, Below.refl _ _⟩
        clear h hp hc e1 e2 e3 e4 hn
        go_enter Try.func23, Try.ntmps23
        go_wp2_with (first | (go_at_call 58; refine HA.out.mono ?_; rintro e w1 ⟨rfl, hb⟩) | (go_at_call 59; refine (HH.out _).mono ?_; rintro e w2 ⟨rfl, hb2⟩))
        refine bodyPost_ret (v := .tuple #[.slice none 0 0, .int .i64 5]) (by simp (maxDischargeDepth := 8) [results, Try.results23, go_sem, *]) rfl ?_
        exact RetPC.nil (below_after hb2 hb)
    · have e1 : huL ps = [] := by unfold huL; rw [hp, if_pos rfl, if_neg (by omega)]
      have e2 : huC ps = 2 := by unfold huC; rw [hp, if_pos rfl, if_neg (by omega)]
      rw [e1, e2]
      have q : (100 : Int) < (n : Int) := by omega
      clear h hp e1 e2 hn hc
      go_enter Try.func23, Try.ntmps23
      go_wp2_with (go_at_call 58; refine HA.out.mono ?_; rintro e w1 ⟨rfl, hb⟩)
      refine bodyPost_ret (v := .tuple #[.slice none 0 0, .int .i64 2]) (by simp (maxDischargeDepth := 8) [results, Try.results23, go_sem, *]) rfl ?_
      exact RetPC.nil hb
end Go.Proofs.Ytkfoelkkllpmdaa
