/-
  HullOf in the program at any list (own work).
-/
import Derived.Test.YtmjhejmkmdgikaaPgJ
namespace Go.Proofs.Ytmjhejmkmdgikaa
open Go.ChangeShapes Go.WideShapes Go.ChangeAt Go.RowKit
set_option linter.unusedVariables false
set_option maxRecDepth 100000
set_option linter.unusedSimpArgs false
set_option maxRecDepth 100000

def hulP (L : List (Int × Int)) : List (Int × Int) := lst (hsq L (hF L)) (hlP L)
def tlOk (L : List (Int × Int)) : Bool := decide (hlP L ≤ 12) && inC (hulP L)
def tlL (L : List (Int × Int)) : List (Int × Int) := if hlP L < 3 then [] else if tlOk L = true then hulP L else []
def tlC (L : List (Int × Int)) : Int := if hlP L < 3 then 5 else if tlOk L = true then 0 else 3
def huL (L : List (Int × Int)) : List (Int × Int) := if L.all isPt = true then (if L.length ≤ 100 then tlL L else []) else []
def huC (L : List (Int × Int)) : Int := if L.all isPt = true then (if L.length ≤ 100 then tlC L else 2) else 1
theorem hulP_len (L : List (Int × Int)) : (hulP L).length = hlP L := lst_len _ _
theorem hsq_nil (f : Int × Int) : ∀ k, hsq [] f k = f
  | 0 => rfl
  | k + 1 => by
    show pnx [] (hsq [] f k) = f
    rw [hsq_nil f k]; rfl
theorem hlP_nil : hlP [] = 1 := by
  unfold hlP
  show (if hsq [] (hF []) 1 = hF [] then 1 else _) = 1
  exact if_pos (hsq_nil _ 1)
theorem all_pt {L : List (Int × Int)} (h : L.all isPt = true) : ∀ k, k < L.length → isPt (L.getD k (0, 0)) = true := fun k hk => List.all_eq_true.1 h _ (getD_in hk)
theorem own_lower {w : World} {base base' : Nat} {e : TypeId} {size : Nat} {v : Value} {n : Nat} {xs : List Value} (h : w.ownsRow base e size v n xs) (hb : base' ≤ base) : w.ownsRow base' e size v n xs := by
  refine ⟨h.1, ?_⟩
  rcases h.2 with h' | ⟨g, cap, cur, h1, h2, h3⟩
  · exact .inl h'
  · exact .inr ⟨g, cap, cur, h1, by omega, h3⟩
theorem arePoints_nil (a : Option Addr) (cap : Nat) (w : World) : Calls Try.prog 126 #[.slice a 0 cap] w fun e w' => e = .returned (.bool true) ∧ Below w.heap.size w w' := by
  go_enter Try.func126, Try.ntmps126
  go_wp2_with fail
  go_loopw [7] (fun i wr => i = .int .i64 0 ∧ Below w.heap.size w wr) (fun i _ => 0)
  case atStart => exact ⟨rfl, Below.refl _ _⟩
  case round =>
    obtain ⟨rfl, hbel⟩ := hrel
    go_wp2_with fail
    go_ret
    exact ⟨rfl, hbel⟩
theorem arePoints_lv (a : Option Addr) (n cap : Nat) (ps : List (Int × Int)) (w : World) (h : LV w a n ps) : Calls Try.prog 126 #[.slice a n cap] w fun e w' => e = .returned (.bool (ps.all isPt)) ∧ Below w.heap.size w w' := by
  obtain ⟨hn, hm, hc⟩ := h
  by_cases h1 : 1 ≤ n
  · obtain ⟨g, rfl, hg, hc⟩ := hc h1
    rw [← hn] at hm ⊢
    exact arePoints_any ps g 0 cap w hg hm hc
  · have h0 : n = 0 := by omega
    subst h0
    have : ps = [] := List.length_eq_zero_iff.1 hn
    subst this
    exact arePoints_nil a cap w
theorem limited_yes (a : Option Addr) (n cap : Nat) (ps : List (Int × Int)) (w : World) (h1 : 1 ≤ n) (h : LV w a n ps) (hm : n ≤ 12) (hi : inC ps = true) : Calls Try.prog 108 #[.slice a n cap] w fun e w' => e = .returned (.tuple #[.slice a n cap, .int .i64 0]) ∧ Below w.heap.size w w' := by
  obtain ⟨hn, hmm, hc⟩ := h
  obtain ⟨g, rfl, hg, hc⟩ := hc h1
  have HA := Lib.hid (areCorners_any ps g cap n w hn.symm hg hmm hc)
  rw [hi] at HA
  clear hc hi hn
  have q : ¬ (12 : Int) < (n : Int) := by omega
  go_enter Try.func108, Try.ntmps108
  go_wp2_with (go_at_call 134; refine HA.out.mono ?_; rintro e w1 ⟨rfl, hb⟩)
  refine bodyPost_ret (v := .tuple #[.slice (some ⟨g, 0, none⟩) n cap, .int .i64 0]) (by simp (maxDischargeDepth := 8) [results, Try.results108, go_sem, *]) rfl ?_
  exact ⟨rfl, hb⟩
theorem limited_no (a : Option Addr) (n cap : Nat) (ps : List (Int × Int)) (w : World) (h1 : 1 ≤ n) (h : LV w a n ps) (hi : (decide (n ≤ 12) && inC ps) = false) : Calls Try.prog 108 #[.slice a n cap] w fun e w' => e = .returned (.tuple #[.slice none 0 0, .int .i64 3]) ∧ Below w.heap.size w w' := by
  obtain ⟨hn, hmm, hc⟩ := h
  obtain ⟨g, rfl, hg, hc⟩ := hc h1
  have HA := Lib.hid (areCorners_any ps g cap n w hn.symm hg hmm hc)
  by_cases hm : n ≤ 12
  · have hi2 : inC ps = false := by simpa [hm] using hi
    rw [hi2] at HA
    clear hc hi hn hi2
    have q : ¬ (12 : Int) < (n : Int) := by omega
    go_enter Try.func108, Try.ntmps108
    go_wp2_with (go_at_call 134; refine HA.out.mono ?_; rintro e w1 ⟨rfl, hb⟩)
    refine bodyPost_ret (v := .tuple #[.slice none 0 0, .int .i64 3]) (by simp (maxDischargeDepth := 8) [results, Try.results108, go_sem, *]) rfl ?_
    exact ⟨rfl, hb⟩
  · clear hc hi hn HA
    have q : (12 : Int) < (n : Int) := by omega
    go_enter Try.func108, Try.ntmps108
    go_wp2_with fail
    refine bodyPost_ret (v := .tuple #[.slice none 0 0, .int .i64 3]) (by simp (maxDischargeDepth := 8) [results, Try.results108, go_sem, *]) rfl ?_
    exact ⟨rfl, Below.refl _ _⟩
end Go.Proofs.Ytmjhejmkmdgikaa
