/-
  IsPolygon in the program and in the model, at any list (own work).
-/
import Derived.Lib.MinMax
import Derived.Test.YtmjhejmkmdgikaaPgP
import Derived.Test.YtmjhejmkmdgikaaRowP
import Derived.Test.YtmjhejmkmdgikaaOwn
namespace Go.Proofs.Ytmjhejmkmdgikaa
open Go.ChangeShapes Go.WideShapes Go.ChangeAt Go.RowKit
set_option linter.unusedVariables false
set_option maxRecDepth 100000
set_option linter.unusedSimpArgs false
set_option maxRecDepth 100000

/-- A list of points that can be read. -/
def LV (W : World) (a : Option Addr) (n : Nat) (ps : List (Int × Int)) : Prop := ps.length = n ∧ n ≤ 140737488351232 ∧ (1 ≤ n → ∃ g, a = some ⟨g, 0, none⟩ ∧ g < W.heap.size ∧ PtCells W g 0 ps)
theorem LV.below {W W' : World} {a : Option Addr} {n : Nat} {ps : List (Int × Int)} (h : LV W a n ps) (hb : Below W.heap.size W W') : LV W' a n ps :=
  ⟨h.1, h.2.1, fun h1 => by
    obtain ⟨g, e, hg, hc⟩ := h.2.2 h1
    exact ⟨g, e, Nat.lt_of_lt_of_le hg hb.size, ptCells_kept hc (hb.block g hg)⟩⟩
theorem flat_at (ps : List (Int × Int)) (i : Nat) : (flat ps).getD (i * 2) 0 = (ps.getD i (0, 0)).1 ∧ (flat ps).getD (i * 2 + 1) 0 = (ps.getD i (0, 0)).2 := by
  induction ps generalizing i with
  | nil => simp [flat]
  | cons p l ih =>
    cases i with
    | zero => simp [flat]
    | succ i =>
      have := ih i
      have e : flat (p :: l) = p.1 :: p.2 :: flat l := by simp [flat]
      rw [e, show (i + 1) * 2 = i * 2 + 1 + 1 by omega, show i * 2 + 1 + 1 + 1 = (i * 2 + 1) + 1 + 1 by omega]
      simpa using this
theorem LV.of_own {B : Nat} {W : World} {a : Option Addr} {n cp : Nat} {ps : List (Int × Int)} (h : OwnF B W (.slice a n cp) n (flat ps)) (hN : ps.length = n) (hl : n ≤ 140737488351232) : LV W a n ps := by
  refine ⟨hN, hl, fun h1 => ?_⟩
  obtain ⟨a', c', e, hv⟩ := own_viewF h
  simp only [Value.slice.injEq] at e
  obtain ⟨rfl, _, rfl⟩ := e
  obtain ⟨g, rfl, _, hlt, hc, _⟩ := hv (by omega)
  refine ⟨g, rfl, hlt, fun i hi => ?_⟩
  obtain ⟨f0, f1⟩ := flat_at ps i
  have c0 := hc (i * 2) (by omega)
  have c1 := hc (i * 2 + 1) (by omega)
  rw [f0] at c0
  rw [f1] at c1
  rw [Nat.zero_add]
  exact ⟨c0, c1⟩
theorem areCorners_any (ps : List (Int × Int)) (b cap n : Nat) (w : World) (hn : n = ps.length) (hb : b < w.heap.size) (hmax : n ≤ 140737488351232) (hc : PtCells w b 0 ps) :
    Calls Try.prog 134 #[.slice (some ⟨b, 0, none⟩) n cap] w fun e w' => e = .returned (.bool (inC ps)) ∧ Below w.heap.size w w' := by
  have HN := Lib.hid hn
  clear hn
  have HC := Lib.hid hc
  clear hc
  go_enter Try.func134, Try.ntmps134
  go_wp2
  go_loopw [7] (fun i wr => ∃ k : Nat, k ≤ n ∧ i = .int .i64 k ∧ inC (ps.take k) = true ∧ Below w.heap.size w wr) (fun i _ => n - (intOf i).toNat)
  case atStart => exact ⟨0, by omega, rfl, rfl, Below.refl _ _⟩
  case round =>
    obtain ⟨k, hk, rfl, hall, hbel⟩ := hrel
    have HA := Lib.hid hall
    clear hall
    by_cases hlt : k < n
    · have hk' : k < ps.length := by rw [← HN.out]; exact hlt
      have h2 := HC.out k hk'
      obtain ⟨x, y, hxy⟩ : ∃ x y, ps.getD k (0, 0) = (x, y) := ⟨_, _, rfl⟩
      rw [hxy, Nat.zero_add] at h2
      have hc0 := (hbel.cell (p := ⟨b, k * 2, none⟩) hb).trans h2.1
      have hc1 := (hbel.cell (p := ⟨b, k * 2 + 1, none⟩) hb).trans h2.2
      have hget : ps[k] = (x, y) := by rw [← hxy]; simp [List.getD, hk']
      have HT : Hid (inC (ps.take (k + 1)) = isS x y) := by
        show inC (ps.take (k + 1)) = isS x y
        have := HA.out
        unfold inC at this ⊢
        rw [List.take_succ_eq_append_getElem hk', List.all_append, this, hget]; simp
      have HG : Hid ((x, y) ∈ ps) := by
        show (x, y) ∈ ps
        rw [← hget]; exact List.getElem_mem hk'
      have HM : Hid (isS x y = (!(decide (min x y < -1000)) && !(decide (1000 < max x y)))) := isS_mm x y
      clear hxy h2 hget hk'
      have HNO : Hid (isS x y = false → inC ps = false) := fun hs => by
        unfold inC
        rw [List.all_eq_false]
        exact ⟨_, HG.out, by show ¬ isS x y = true; rw [hs]; simp⟩
      by_cases h1 : min x y < -1000
      · have hs : isS x y = false := by rw [HM.out, decide_eq_true h1]; rfl
        have HR := Lib.hid (HNO.out hs)
        clear hs
        go_wp2
        go_ret
        exact ⟨by rw [HR.out]; rfl, by have hsz := hbel.size; (repeat' (first | (with_reducible exact Below.refl _ _) | (with_reducible refine Below.alloc ?_ ?_ _) | (with_reducible refine Below.setCell ?_ ?_ _) | (with_reducible refine Below.drew ?_) | (with_reducible refine below_drewN ?_ _) | (with_reducible assumption) | (with_reducible refine below_after (by with_reducible assumption) ?_) | go_size))⟩
      · by_cases h3 : 1000 < max x y
        · have hs : isS x y = false := by rw [HM.out, decide_eq_true h3]; simp
          have HR := Lib.hid (HNO.out hs)
          clear hs
          go_wp2
          go_ret
          exact ⟨by rw [HR.out]; rfl, by have hsz := hbel.size; (repeat' (first | (with_reducible exact Below.refl _ _) | (with_reducible refine Below.alloc ?_ ?_ _) | (with_reducible refine Below.setCell ?_ ?_ _) | (with_reducible refine Below.drew ?_) | (with_reducible refine below_drewN ?_ _) | (with_reducible assumption) | (with_reducible refine below_after (by with_reducible assumption) ?_) | go_size))⟩
        · have hs : isS x y = true := by rw [HM.out, decide_eq_false h1, decide_eq_false h3]; rfl
          have HR := Lib.hid hs
          clear hs
          go_wp2
          go_roundw
          case rel => exact ⟨k + 1, by omega, by go_num, by rw [HT.out, HR.out], by have hsz := hbel.size; (repeat' (first | (with_reducible exact Below.refl _ _) | (with_reducible refine Below.alloc ?_ ?_ _) | (with_reducible refine Below.setCell ?_ ?_ _) | (with_reducible refine Below.drew ?_) | (with_reducible refine below_drewN ?_ _) | (with_reducible assumption) | (with_reducible refine below_after (by with_reducible assumption) ?_) | go_size))⟩
          case measure => simp [intOf]; omega
    · have hge : n ≤ k := by omega
      clear hlt
      go_wp2
      go_ret
      refine ⟨?_, hbel⟩
      have := HA.out
      rw [List.take_of_length_le (by rw [← HN.out]; exact hge)] at this
      rw [this]; rfl
theorem isP_small {ps : List (Int × Int)} {n : Nat} (hn : ps.length = n) (h : n < 3) : isP ps = false := by
  rw [isP_eq, hn, decide_eq_false (by omega)]; rfl
theorem isP_large {ps : List (Int × Int)} {n : Nat} (hn : ps.length = n) (h : 12 < n) : isP ps = false := by
  rw [isP_eq, hn, decide_eq_false (p := n ≤ 12) (by omega)]; simp
theorem isP_mid {ps : List (Int × Int)} {n : Nat} (hn : ps.length = n) (h1 : 3 ≤ n) (h2 : n ≤ 12) : isP ps = (inC ps && cvB ps) := by
  rw [isP_eq, hn, decide_eq_true h1, decide_eq_true h2]; rfl
theorem impl_IsPolygon_any (a : Option Addr) (n cap : Nat) (ps : List (Int × Int)) (w : World) (h : LV w a n ps) :
    Calls Try.prog 102 #[.slice a n cap] w fun e w' => e = .returned (.bool (isP ps)) ∧ Below w.heap.size w w' := by
  obtain ⟨hn, hmax, hv⟩ := h
  by_cases h1 : n < 3
  · rw [isP_small hn h1]
    clear hv hn
    have q : ¬ (3 : Int) ≤ (n : Int) := by omega
    go_enter Try.func102, Try.ntmps102
    go_wp2
    go_ret
    exact ⟨rfl, by (repeat' (first | (with_reducible exact Below.refl _ _) | (with_reducible refine Below.alloc ?_ ?_ _) | (with_reducible refine Below.setCell ?_ ?_ _) | (with_reducible refine Below.drew ?_) | (with_reducible refine below_drewN ?_ _) | (with_reducible assumption) | (with_reducible refine below_after (by with_reducible assumption) ?_) | go_size))⟩
  · by_cases h2 : 12 < n
    · rw [isP_large hn h2]
      clear hv hn
      have q : (3 : Int) ≤ (n : Int) := by omega
      have q2 : ¬ (n : Int) ≤ 12 := by omega
      go_enter Try.func102, Try.ntmps102
      go_wp2
      go_ret
      exact ⟨rfl, by (repeat' (first | (with_reducible exact Below.refl _ _) | (with_reducible refine Below.alloc ?_ ?_ _) | (with_reducible refine Below.setCell ?_ ?_ _) | (with_reducible refine Below.drew ?_) | (with_reducible refine below_drewN ?_ _) | (with_reducible assumption) | (with_reducible refine below_after (by with_reducible assumption) ?_) | go_size))⟩
    · obtain ⟨g, rfl, hg, hc⟩ := hv (by omega)
      have q : (3 : Int) ≤ (n : Int) := by omega
      have q2 : (n : Int) ≤ 12 := by omega
      have HA : Hid (Calls Try.prog 134 #[.slice (some ⟨g, 0, none⟩) n cap] w fun e w' => e = .returned (.bool (inC ps)) ∧ Below w.heap.size w w') := areCorners_any ps g cap n w hn.symm hg hmax hc
      have HI : Hid (isP ps = (inC ps && cvB ps)) := isP_mid hn (by omega) (by omega)
      cases hi : inC ps
      · have HR : Hid (isP ps = false) := by show _ = _; rw [HI.out, hi]; rfl
        rw [hi] at HA
        clear hc hi hn
        go_enter Try.func102, Try.ntmps102
        go_wp2_with (go_at_call 134; refine HA.out.mono ?_; rintro e w1 ⟨rfl, hb⟩)
        go_ret
        exact ⟨by rw [HR.out]; rfl, by (repeat' (first | (with_reducible exact Below.refl _ _) | (with_reducible refine Below.alloc ?_ ?_ _) | (with_reducible refine Below.setCell ?_ ?_ _) | (with_reducible refine Below.drew ?_) | (with_reducible refine below_drewN ?_ _) | (with_reducible assumption) | (with_reducible refine below_after (by with_reducible assumption) ?_) | go_size))⟩
      · have HR : Hid (isP ps = cvB ps) := by show _ = _; rw [HI.out, hi]; rfl
        have HV : Hid (∀ w1, Below w.heap.size w w1 → Calls Try.prog 135 #[.slice (some ⟨g, 0, none⟩) n cap] w1 fun e w' => e = .returned (.bool (cvB ps)) ∧ Below w1.heap.size w1 w') := fun w1 hb =>
          isConvex_some ps n g cap w1 hn (by omega) (by omega) (Nat.lt_of_lt_of_le hg hb.size) (ptCells_kept hc (hb.block g hg)) hi
        rw [hi] at HA
        clear hc hi hn
        go_enter Try.func102, Try.ntmps102
        go_wp2_with (first | (go_at_call 134; refine HA.out.mono ?_; rintro e w1 ⟨rfl, hb⟩; have HV2 := Lib.hid (HV.out _ hb)) | (go_at_call 135; refine HV2.out.mono ?_; rintro e w2 ⟨rfl, hb2⟩))
        go_ret
        exact ⟨by rw [HR.out]; rfl, by (repeat' (first | (with_reducible exact Below.refl _ _) | (with_reducible refine Below.alloc ?_ ?_ _) | (with_reducible refine Below.setCell ?_ ?_ _) | (with_reducible refine Below.drew ?_) | (with_reducible refine below_drewN ?_ _) | (with_reducible assumption) | (with_reducible refine below_after (by with_reducible assumption) ?_) | go_size))⟩
theorem l09Is_any (a : Option Addr) (n cap : Nat) (ps : List (Int × Int)) (w : World) (h : LV w a n ps) :
    Calls Try.prog 95 #[.slice a n cap] w fun e w' => e = .returned (.bool (isP ps)) ∧ Below w.heap.size w w' := by
  obtain ⟨hn, hmax, hv⟩ := h
  by_cases h1 : n < 3
  · rw [isP_small hn h1]
    clear hv hn
    have q : (n : Int) < 3 := by omega
    go_enter Try.func95, Try.ntmps95
    go_wp2
    go_ret
    exact ⟨rfl, by (repeat' (first | (with_reducible exact Below.refl _ _) | (with_reducible refine Below.alloc ?_ ?_ _) | (with_reducible refine Below.setCell ?_ ?_ _) | (with_reducible refine Below.drew ?_) | (with_reducible refine below_drewN ?_ _) | (with_reducible assumption) | (with_reducible refine below_after (by with_reducible assumption) ?_) | go_size))⟩
  · by_cases h2 : 12 < n
    · rw [isP_large hn h2]
      clear hv hn
      have q : ¬ (n : Int) < 3 := by omega
      have q2 : (12 : Int) < (n : Int) := by omega
      go_enter Try.func95, Try.ntmps95
      go_wp2
      go_ret
      exact ⟨rfl, by (repeat' (first | (with_reducible exact Below.refl _ _) | (with_reducible refine Below.alloc ?_ ?_ _) | (with_reducible refine Below.setCell ?_ ?_ _) | (with_reducible refine Below.drew ?_) | (with_reducible refine below_drewN ?_ _) | (with_reducible assumption) | (with_reducible refine below_after (by with_reducible assumption) ?_) | go_size))⟩
    · obtain ⟨g, rfl, hg, hc⟩ := hv (by omega)
      have hI : isP ps = isL ps n 0 0 := by unfold isP; rw [hn, decide_eq_true (show 3 ≤ n by omega), decide_eq_true (show n ≤ 12 by omega)]; rfl
      rw [hI]
      exact l09Is_some ps n g cap w hn (by omega) (by omega) hg hc
end Go.Proofs.Ytmjhejmkmdgikaa
