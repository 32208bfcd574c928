/-
  HullOf in the model at any list (own work).
-/
import Derived.Test.YtkfoelkkllpmdaaPgV
namespace Go.Proofs.Ytkfoelkkllpmdaa
open Go.ChangeShapes Go.WideShapes Go.ChangeAt Go.RowKit
set_option linter.unusedVariables false
set_option maxRecDepth 100000
set_option linter.unusedSimpArgs false
set_option maxRecDepth 100000

def hulM (L : List (Int × Int)) : List (Int × Int) := lst (hsq L (hF L)) (hlM L)
theorem hulM_len (L : List (Int × Int)) : (hulM L).length = hlM L := lst_len _ _
/-- What both readings find of the hull is the same. -/
theorem hull_same {L : List (Int × Int)} (h1 : 1 ≤ L.length) : (hlM L < 3 ↔ hlP L < 3) ∧ (3 ≤ hlM L → isP (hulM L) = tlOk L ∧ (tlOk L = true → hulM L = hulP L)) := by
  obtain ⟨a, b, c⟩ := hull_both (hF_in h1) (hF_min L) (N := L.length) rfl
  refine ⟨a.symm, fun h3 => ?_⟩
  have h3' : 3 ≤ hlP L := by
    apply Classical.byContradiction
    intro hn
    have := a.1 (by unfold hlP at hn; omega)
    unfold hlM at h3
    omega
  by_cases h12 : hlP L ≤ 12
  · obtain ⟨e, hcv⟩ := b h3' h12
    have e : hlM L = hlP L := e
    have eL : hulM L = hulP L := by unfold hulM hulP; rw [e]
    refine ⟨?_, fun _ => eL⟩
    rw [eL]
    unfold tlOk
    rw [decide_eq_true h12, Bool.true_and]
    cases hi : inC (hulP L)
    · cases hp : isP (hulP L)
      · rfl
      · have := (isP_iff.1 hp).2.2.1
        rw [hi] at this; cases this
    · refine isP_iff.2 ⟨by rw [hulP_len]; exact h3', by rw [hulP_len]; exact h12, hi, ?_⟩
      rw [hulP_len]
      exact hcv
  · have hno := c (show 12 < hlP L by omega)
    have e1 : tlOk L = false := by unfold tlOk; rw [decide_eq_false h12]; rfl
    have e2 : isP (hulM L) = false := by
      cases hp : isP (hulM L)
      · rfl
      · obtain ⟨p1, p2, p3, p4⟩ := isP_iff.1 hp
        rw [hulM_len] at p2 p4
        exact absurd ⟨p2, p4⟩ hno
    rw [e1, e2]
    exact ⟨rfl, fun h => by cases h⟩
theorem told_nil (a : Option Addr) (cap : Nat) (w : World) : Calls Try.prog 57 #[.slice a 0 cap] w (RetPC w (tlL []) (tlC [])) := by
  have e3 : tlL [] = [] := if_pos (by rw [hlP_nil]; omega)
  have e4 : tlC [] = 5 := if_pos (by rw [hlP_nil]; omega)
  rw [e3, e4]
  clear e3 e4
  go_enter Try.func57, Try.ntmps57
  go_wp2_with (go_at_call 88; refine (l09Hull_nil a cap w).mono ?_; rintro e w1 ⟨v, rfl, ho, hb⟩; obtain ⟨va, vc, rfl, _⟩ := own_viewF ho)
  refine bodyPost_ret (v := .tuple #[.slice none 0 0, .int .i64 5]) (by simp (maxDischargeDepth := 8) [results, Try.results57, go_sem, *]) rfl ?_
  exact RetPC.nil hb
set_option maxHeartbeats 1600000 in
theorem told_some (g n cap : Nat) (L : List (Int × Int)) (w : World) (h1 : 1 ≤ n) (hn : L.length = n) (hm : n ≤ 1000000) (hg : g < w.heap.size) (hc : PtCells w g 0 L) (hpt : ∀ k, k < n → isPt (L.getD k (0, 0)) = true) : Calls Try.prog 57 #[.slice (some ⟨g, 0, none⟩) n cap] w (RetPC w (tlL L) (tlC L)) := by
  have HH : Hid (Calls Try.prog 88 #[.slice (some ⟨g, 0, none⟩) n cap] w (RetP w (hlM L) (flat (hulM L)))) := l09Hull_some g n cap L w h1 hn hm hg hc hpt
  obtain ⟨s1, s2⟩ := hull_same (L := L) (by omega)
  have hub : hlM L ≤ 1000001 := by
    have := (clo_ok (hF L) (hsq L (hF L)) L.length 1).2.1
    unfold hlM
    omega
  have HLN := Lib.hid (hulM_len L)
  by_cases h3 : hlM L < 3
  · have e3 : tlL L = [] := if_pos (s1.1 h3)
    have e4 : tlC L = 5 := if_pos (s1.1 h3)
    rw [e3, e4]
    obtain ⟨M, hM⟩ : ∃ M, hlM L = M := ⟨_, rfl⟩
    rw [hM] at HH h3
    have q3 : (M : Int) < 3 := by omega
    clear e3 e4 s1 s2 hM hc hpt hub hn
    go_enter Try.func57, Try.ntmps57
    go_wp2_with (go_at_call 88; refine HH.out.mono ?_; rintro e w1 ⟨v, rfl, ho, hb⟩; obtain ⟨va, vc, rfl, _⟩ := own_viewF ho)
    refine bodyPost_ret (v := .tuple #[.slice none 0 0, .int .i64 5]) (by simp (maxDischargeDepth := 8) [results, Try.results57, go_sem, *]) rfl ?_
    exact RetPC.nil hb
  · have hk : ¬ hlP L < 3 := fun h => h3 (s1.2 h)
    obtain ⟨s2, s3⟩ := s2 (by omega)
    have q3 : ¬ ((hlM L : Nat) : Int) < 3 := by omega
    cases ho : tlOk L
    · have e3 : tlL L = [] := by unfold tlL; rw [if_neg hk, ho]; rfl
      have e4 : tlC L = 3 := by unfold tlC; rw [if_neg hk, ho]; rfl
      rw [e3, e4]
      rw [ho] at s2
      have HIS : Hid (∀ W va vc, LV W va (hlM L) (hulM L) → Calls Try.prog 52 #[.slice va (hlM L) vc] W fun e w' => e = .returned (.bool false) ∧ Below W.heap.size W w') := fun W va vc hl => by
        have := l09Is_any va (hlM L) vc (hulM L) W hl
        rwa [s2] at this
      obtain ⟨M, hM⟩ : ∃ M, hlM L = M := ⟨_, rfl⟩
      rw [hM] at HH q3 HIS HLN hub
      clear e3 e4 s1 s2 s3 hM hc hpt hn ho hk h3
      go_enter Try.func57, Try.ntmps57
      go_wp2_with (first | (go_at_call 88; refine HH.out.mono ?_; rintro e w1 ⟨v, rfl, ho, hb⟩; obtain ⟨va, vc, rfl, _⟩ := own_viewF ho) | (go_at_call 52; refine (HIS.out _ _ _ (LV.of_own ho HLN.out (by omega))).mono ?_; rintro e w2 ⟨rfl, hb2⟩))
      refine bodyPost_ret (v := .tuple #[.slice none 0 0, .int .i64 3]) (by simp (maxDischargeDepth := 8) [results, Try.results57, go_sem, *]) rfl ?_
      exact RetPC.nil (below_after hb2 hb)
    · have e3 : tlL L = hulM L := by unfold tlL; rw [if_neg hk, ho, s3 ho]; rfl
      have e4 : tlC L = 0 := by unfold tlC; rw [if_neg hk, ho]; rfl
      rw [e3, e4]
      rw [ho] at s2
      have HIS : Hid (∀ W va vc, LV W va (hlM L) (hulM L) → Calls Try.prog 52 #[.slice va (hlM L) vc] W fun e w' => e = .returned (.bool true) ∧ Below W.heap.size W w') := fun W va vc hl => by
        have := l09Is_any va (hlM L) vc (hulM L) W hl
        rwa [s2] at this
      obtain ⟨M, hM⟩ : ∃ M, hlM L = M := ⟨_, rfl⟩
      rw [hM] at HH q3 HIS HLN hub
      clear e3 e4 s1 s2 s3 hM hc hpt hn ho hk h3
      go_enter Try.func57, Try.ntmps57
      go_wp2_with (first | (go_at_call 88; refine HH.out.mono ?_; rintro e w1 ⟨v, rfl, ho, hb⟩; obtain ⟨va, vc, rfl, _⟩ := own_viewF ho) | (go_at_call 52; refine (HIS.out _ _ _ (LV.of_own ho HLN.out (by omega))).mono ?_; rintro e w2 ⟨rfl, hb2⟩))
      refine bodyPost_ret (v := .tuple #[.slice va M vc, .int .i64 0]) (by simp (maxDischargeDepth := 8) [results, Try.results57, go_sem, *]) rfl ?_
      exact ⟨_, rfl, by rw [HLN.out]; exact own_below ho hb2, below_after hb2 hb⟩
theorem l01Code_nil (a : Option Addr) (cap : Nat) (w : World) : Calls Try.prog 101 #[.slice a 0 cap] w fun e w' => e = .returned (.int .i64 0) ∧ Below w.heap.size w w' := by
  go_enter Try.func101, Try.ntmps101
  go_wp2_with fail
  go_loopw [3] (fun i wr => i = .int .i64 0 ∧ Below w.heap.size w wr) (fun i _ => 0)
  case atStart => exact ⟨rfl, Below.refl _ _⟩
  case round =>
    obtain ⟨rfl, hbel⟩ := hrel
    go_wp2_with fail
    go_ret
    exact ⟨rfl, hbel⟩
theorem l01Code_lv (a : Option Addr) (n cap : Nat) (ps : List (Int × Int)) (w : World) (h : LV w a n ps) : Calls Try.prog 101 #[.slice a n cap] w fun e w' => e = .returned (.int .i64 (bif ps.all isPt then 0 else 1)) ∧ Below w.heap.size w w' := by
  obtain ⟨hn, hm, hc⟩ := h
  by_cases h1 : 1 ≤ n
  · obtain ⟨g, rfl, hg, hc⟩ := hc h1
    rw [← hn] at hm ⊢
    exact l01Code_any ps g 0 cap w hg hm hc
  · have h0 : n = 0 := by omega
    subst h0
    have : ps = [] := List.length_eq_zero_iff.1 hn
    subst this
    exact l01Code_nil a cap w
def cdL (ps : List (Int × Int)) : Int := if ps.all isPt = true then (if ps.length ≤ 100 then 0 else 2) else 1
theorem l01Points_lv (a : Option Addr) (n cap : Nat) (ps : List (Int × Int)) (w : World) (h : LV w a n ps) : Calls Try.prog 56 #[.slice a n cap] w fun e w' => e = .returned (.int .i64 (cdL ps)) ∧ Below w.heap.size w w' := by
  have HA := Lib.hid (l01Code_lv a n cap ps w h)
  cases hp : ps.all isPt
  · have e1 : cdL ps = 1 := by unfold cdL; rw [hp]; rfl
    rw [e1]
    rw [hp] at HA
    have HA : Hid (Calls Try.prog 101 #[.slice a n cap] w fun e w' => e = .returned (.int .i64 1) ∧ Below w.heap.size w w') := HA.out
    clear h hp e1
    go_enter Try.func56, Try.ntmps56
    go_wp2_with (go_at_call 101; refine HA.out.mono ?_; rintro e w1 ⟨rfl, hb⟩)
    go_ret
    exact ⟨rfl, hb⟩
  · rw [hp] at HA
    have HA : Hid (Calls Try.prog 101 #[.slice a n cap] w fun e w' => e = .returned (.int .i64 0) ∧ Below w.heap.size w w') := HA.out
    by_cases hm : n ≤ 100
    · have e1 : cdL ps = 0 := by unfold cdL; rw [hp, if_pos rfl, if_pos (by have := h.1; omega)]
      rw [e1]
      have q : ¬ (100 : Int) < (n : Int) := by omega
      clear h hp e1
      go_enter Try.func56, Try.ntmps56
      go_wp2_with (go_at_call 101; refine HA.out.mono ?_; rintro e w1 ⟨rfl, hb⟩)
      go_ret
      exact ⟨rfl, hb⟩
    · have e1 : cdL ps = 2 := by unfold cdL; rw [hp, if_pos rfl, if_neg (by have := h.1; omega)]
      rw [e1]
      have q : (100 : Int) < (n : Int) := by omega
      clear h hp e1
      go_enter Try.func56, Try.ntmps56
      go_wp2_with (go_at_call 101; refine HA.out.mono ?_; rintro e w1 ⟨rfl, hb⟩)
      go_ret
      exact ⟨rfl, hb⟩
set_option maxHeartbeats 1600000 in
theorem spec_HullOf_any (a : Option Addr) (n cap : Nat) (ps : List (Int × Int)) (w : World) (h : LV w a n ps) : Calls Try.prog 22 #[.slice a n cap] w (RetPC w (huL ps) (huC ps)) := by
  have HA := Lib.hid (l01Points_lv a n cap ps w h)
  by_cases h0 : cdL ps = 0
  · have hp : ps.all isPt = true := by
      apply Classical.byContradiction
      intro hn
      unfold cdL at h0
      rw [if_neg hn] at h0
      omega
    have hm : ps.length ≤ 100 := by
      apply Classical.byContradiction
      intro hn
      unfold cdL at h0
      rw [if_pos hp, if_neg hn] at h0
      omega
    have e1 : huL ps = tlL ps := by unfold huL; rw [if_pos hp, if_pos hm]
    have e2 : huC ps = tlC ps := by unfold huC; rw [if_pos hp, if_pos hm]
    rw [e1, e2]
    rw [h0] at HA
    have HT : Hid (∀ w1, Below w.heap.size w w1 → Calls Try.prog 57 #[.slice a n cap] w1 (RetPC w1 (tlL ps) (tlC ps))) := fun w1 hb => by
      obtain ⟨hn, hmm, hc⟩ := h.below hb
      by_cases h1 : 1 ≤ n
      · obtain ⟨g, rfl, hg, hc⟩ := hc h1
        exact told_some g n cap ps w1 h1 hn (by omega) hg hc (by rw [← hn]; exact all_pt hp)
      · have hn0 : n = 0 := by omega
        subst hn0
        have : ps = [] := List.length_eq_zero_iff.1 hn
        subst this
        exact told_nil a cap w1
    obtain ⟨C, hC⟩ : ∃ C, tlC ps = C := ⟨_, rfl⟩
    rw [hC] at HT
    rw [hC]
    clear h hp hm e1 e2 h0 hC
    go_enter Try.func22, Try.ntmps22
    go_wp2_with (first | (go_at_call 56; refine HA.out.mono ?_; rintro e w1 ⟨rfl, hb⟩) | (go_at_call 57; refine (HT.out _ hb).mono ?_; rintro e w2 ⟨v, rfl, ho, hb2⟩; obtain ⟨va, vc, rfl, _⟩ := own_viewF ho))
    refine bodyPost_ret (v := .tuple #[.slice va (tlL ps).length vc, .int .i64 C]) (by simp (maxDischargeDepth := 8) [results, Try.results22, go_sem, *]) rfl ?_
    exact ⟨_, rfl, own_lower ho hb.size, below_after hb2 hb⟩
  · have e1 : huL ps = [] := by
      unfold huL
      unfold cdL at h0
      split
      · rename_i hp
        rw [if_pos hp] at h0
        split
        · rename_i hm; rw [if_pos hm] at h0; exact absurd rfl h0
        · rfl
      · rfl
    have e2 : huC ps = cdL ps := by
      unfold huC
      unfold cdL at h0 ⊢
      split
      · rename_i hp
        rw [if_pos hp] at h0
        split
        · rename_i hm; rw [if_pos hm] at h0; exact absurd rfl h0
        · rfl
      · rfl
    rw [e1, e2]
    obtain ⟨C, hC⟩ : ∃ C, cdL ps = C := ⟨_, rfl⟩
    rw [hC] at HA h0
    rw [hC]
    have hb1 : (C != 0) = true := by unfold bne; rw [show (C == 0) = false from by simpa using h0]; rfl
    clear h e1 e2 hC
    go_enter Try.func22, Try.ntmps22
    go_wp2_with (go_at_call 56; refine HA.out.mono ?_; rintro e w1 ⟨rfl, hb⟩)
    refine bodyPost_ret (v := .tuple #[.slice none 0 0, .int .i64 C]) (by simp (maxDischargeDepth := 8) [results, Try.results22, go_sem, *]) rfl ?_
    exact RetPC.nil hb
theorem tlL_len (ps : List (Int × Int)) : (tlL ps).length ≤ 12 := by
  unfold tlL
  split
  · simp
  · split
    · rename_i h
      rw [hulP_len]
      unfold tlOk at h
      simp only [Bool.and_eq_true, decide_eq_true_eq] at h
      exact h.1
    · simp
theorem huL_len (ps : List (Int × Int)) : (huL ps).length ≤ 12 := by
  unfold huL
  split
  · split
    · exact tlL_len ps
    · simp
  · simp
end Go.Proofs.Ytkfoelkkllpmdaa
