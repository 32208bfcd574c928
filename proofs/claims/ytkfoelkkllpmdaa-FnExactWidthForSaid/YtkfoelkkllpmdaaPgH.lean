/-
  WidthFor in the program and in the model (own work).
-/
import Derived.Lib.MinMax
import Derived.BigRegion
import Derived.Deep.DeepCutAuto
import Derived.Test.YtkfoelkkllpmdaaPgW
import Derived.Test.YtkfoelkkllpmdaaMark
namespace Go.Proofs.Ytkfoelkkllpmdaa
open Go.ChangeShapes Go.WideShapes Go.ChangeAt Go.RowKit
set_option linter.unusedVariables false
set_option maxRecDepth 100000
set_option linter.unusedSimpArgs false
set_option maxRecDepth 100000

def mxK (f : Nat → Int) : Nat → Int
  | 0 => 0
  | k + 1 => if k = 0 then f 0 else max (mxK f k) (f k)
def mnK (f : Nat → Int) : Nat → Int
  | 0 => 0
  | k + 1 => if k = 0 then f 0 else min (mnK f k) (f k)
theorem mxK_bd {f : Nat → Int} {A : Int} (h0 : 0 ≤ A) (h : ∀ k, -A ≤ f k ∧ f k ≤ A) : ∀ k, -A ≤ mxK f k ∧ mxK f k ≤ A
  | 0 => by unfold mxK; omega
  | k + 1 => by
    have a := h k
    have b := h 0
    have := mxK_bd h0 h k
    unfold mxK
    split <;> omega
theorem mnK_bd {f : Nat → Int} {A : Int} (h0 : 0 ≤ A) (h : ∀ k, -A ≤ f k ∧ f k ≤ A) : ∀ k, -A ≤ mnK f k ∧ mnK f k ≤ A
  | 0 => by unfold mnK; omega
  | k + 1 => by
    have a := h k
    have b := h 0
    have := mnK_bd h0 h k
    unfold mnK
    split <;> omega
theorem mxK_one (f : Nat → Int) : mxK f 1 = f 0 := rfl
theorem mnK_one (f : Nat → Int) : mnK f 1 = f 0 := rfl
theorem mxK_go (f : Nat → Int) {k : Nat} (h : 1 ≤ k) : mxK f (k + 1) = max (mxK f k) (f k) := if_neg (by omega)
theorem mnK_go (f : Nat → Int) {k : Nat} (h : 1 ≤ k) : mnK f (k + 1) = min (mnK f k) (f k) := if_neg (by omega)
/-- The greatest of a list that is not empty. -/
theorem maxI_some (f : Nat → Int) (n g c : Nat) (w : World) (h1 : 1 ≤ n) (hn : n ≤ 1000) (hc : ∀ j, j < n → w.cell? ⟨g, j, none⟩ = some (.int .i64 (f j))) :
    Calls Try.prog 96 #[.slice (some ⟨g, 0, none⟩) n c] w fun e w' => e = .returned (.int .i64 (mxK f n)) ∧ w = w' := by
  have HC := Lib.hid hc
  have c0 := hc 0 (by omega)
  have q : ¬ (n : Int) < 1 := by omega
  clear hc
  go_enter Try.func96, Try.ntmps96
  go_wp2_with fail
  go_loopw [3, 4] (fun m i wr => ∃ k : Nat, 1 ≤ k ∧ k ≤ n ∧ i = .int .i64 k ∧ m = .int .i64 (mxK f k) ∧ w = wr) (fun _ i _ => n - (intOf i).toNat)
  case atStart => exact ⟨1, by omega, h1, by go_num, by rw [mxK_one], rfl⟩
  case round =>
    obtain ⟨k, hk1, hk, rfl, rfl, rfl⟩ := hrel
    by_cases hlt : k < n
    · have e := HC.out k hlt
      have HG := Lib.hid (mxK_go f hk1)
      go_wp2_with fail
      go_roundw
      case rel => exact ⟨k + 1, by omega, by omega, by go_num, by rw [HG.out], (by first | rfl | trivial)⟩
      case measure => simp [intOf]; omega
    · obtain rfl : k = n := by omega
      go_wp2_with fail
      go_ret
      exact ⟨rfl, rfl⟩
theorem minI_some (f : Nat → Int) (n g c : Nat) (w : World) (h1 : 1 ≤ n) (hn : n ≤ 1000) (hc : ∀ j, j < n → w.cell? ⟨g, j, none⟩ = some (.int .i64 (f j))) :
    Calls Try.prog 97 #[.slice (some ⟨g, 0, none⟩) n c] w fun e w' => e = .returned (.int .i64 (mnK f n)) ∧ w = w' := by
  have HC := Lib.hid hc
  have c0 := hc 0 (by omega)
  have q : ¬ (n : Int) < 1 := by omega
  clear hc
  go_enter Try.func97, Try.ntmps97
  go_wp2_with fail
  go_loopw [3, 4] (fun m i wr => ∃ k : Nat, 1 ≤ k ∧ k ≤ n ∧ i = .int .i64 k ∧ m = .int .i64 (mnK f k) ∧ w = wr) (fun _ i _ => n - (intOf i).toNat)
  case atStart => exact ⟨1, by omega, h1, by go_num, by rw [mnK_one], rfl⟩
  case round =>
    obtain ⟨k, hk1, hk, rfl, rfl, rfl⟩ := hrel
    by_cases hlt : k < n
    · have e := HC.out k hlt
      have HG := Lib.hid (mnK_go f hk1)
      go_wp2_with fail
      go_roundw
      case rel => exact ⟨k + 1, by omega, by omega, by go_num, by rw [HG.out], (by first | rfl | trivial)⟩
      case measure => simp [intOf]; omega
    · obtain rfl : k = n := by omega
      go_wp2_with fail
      go_ret
      exact ⟨rfl, rfl⟩
def isPr (a b : Int) : Bool := isPt (a, b) && (gcdI a b == 1)
theorem crd_tn0 {n : Int} (h : -1000000 ≤ n ∧ n ≤ 1000000) : Tn n := ⟨by omega, by omega⟩
theorem isPrimitive_any (a b : Int) (w : World) : Calls Try.prog 95 #[.agg #[.int .i64 a, .int .i64 b]] w fun e w' => e = .returned (.bool (isPr a b)) ∧ Below w.heap.size w w' := by
  cases h : isPt (a, b)
  · go_enter Try.func95, Try.ntmps95
    go_wp2_with (go_at_call 74; refine (isPoint_any _ _ _).mono ?_; rintro e wn ⟨rfl, hb⟩; first | (have h2 := after_call2 hb hcl hfr hlt (by ((repeat' (first | (with_reducible exact Below.refl _ _) | (with_reducible refine Below.alloc ?_ ?_ _) | (with_reducible refine Below.setCell ?_ ?_ _) | (with_reducible refine Below.drew ?_) | (with_reducible refine below_drewN ?_ _) | (with_reducible assumption) | (with_reducible refine below_after (by with_reducible assumption) ?_) | go_size)); done)); obtain ⟨hclx, hfrx, hltx, hsz⟩ := after_call hb; (try simp only [World.size_alloc, World.size_setCell, World.size_drew] at hclx hfrx hltx hsz); (try (have hszl := Nat.lt_of_succ_le hsz)); obtain ⟨hcl, hfr, hlt⟩ := h2) | (obtain ⟨hcl, hfr, hlt, hsz⟩ := after_call hb; (try simp only [World.size_alloc, World.size_setCell, World.size_drew] at hcl hfr hlt hsz)))
    go_ret
    exact ⟨by simp [isPr, h], by (repeat' (first | (with_reducible exact Below.refl _ _) | (with_reducible refine Below.alloc ?_ ?_ _) | (with_reducible refine Below.setCell ?_ ?_ _) | (with_reducible refine Below.drew ?_) | (with_reducible refine below_drewN ?_ _) | (with_reducible assumption) | (with_reducible refine below_after (by with_reducible assumption) ?_) | go_size))⟩
  · have HX := Lib.hid (isPt_c1 h)
    have HY := Lib.hid (isPt_c2 h)
    cases hg : (gcdI a b == 1)
    all_goals
      go_enter Try.func95, Try.ntmps95
      go_wp2_with (first | (go_at_call 74; refine (isPoint_any _ _ _).mono ?_; rintro e wn ⟨rfl, hb⟩; first | (have h2 := after_call2 hb hcl hfr hlt (by ((repeat' (first | (with_reducible exact Below.refl _ _) | (with_reducible refine Below.alloc ?_ ?_ _) | (with_reducible refine Below.setCell ?_ ?_ _) | (with_reducible refine Below.drew ?_) | (with_reducible refine below_drewN ?_ _) | (with_reducible assumption) | (with_reducible refine below_after (by with_reducible assumption) ?_) | go_size)); done)); obtain ⟨hclx, hfrx, hltx, hsz⟩ := after_call hb; (try simp only [World.size_alloc, World.size_setCell, World.size_drew] at hclx hfrx hltx hsz); (try (have hszl := Nat.lt_of_succ_le hsz)); obtain ⟨hcl, hfr, hlt⟩ := h2) | (obtain ⟨hcl, hfr, hlt, hsz⟩ := after_call hb; (try simp only [World.size_alloc, World.size_setCell, World.size_drew] at hcl hfr hlt hsz))) | (go_at_call 124; refine (greatestDivisor_any _ _ _ (crd_tn0 HX.out) (crd_tn0 HY.out)).mono ?_; rintro e wn ⟨rfl, hb⟩; first | (have h2 := after_call2 hb hcl hfr hlt (by ((repeat' (first | (with_reducible exact Below.refl _ _) | (with_reducible refine Below.alloc ?_ ?_ _) | (with_reducible refine Below.setCell ?_ ?_ _) | (with_reducible refine Below.drew ?_) | (with_reducible refine below_drewN ?_ _) | (with_reducible assumption) | (with_reducible refine below_after (by with_reducible assumption) ?_) | go_size)); done)); obtain ⟨hclx, hfrx, hltx, hsz⟩ := after_call hb; (try simp only [World.size_alloc, World.size_setCell, World.size_drew] at hclx hfrx hltx hsz); (try (have hszl := Nat.lt_of_succ_le hsz)); obtain ⟨hcl, hfr, hlt⟩ := h2) | (obtain ⟨hcl, hfr, hlt, hsz⟩ := after_call hb; (try simp only [World.size_alloc, World.size_setCell, World.size_drew] at hcl hfr hlt hsz))))
      go_ret
      exact ⟨by simp [isPr, h, hg], by (repeat' (first | (with_reducible exact Below.refl _ _) | (with_reducible refine Below.alloc ?_ ?_ _) | (with_reducible refine Below.setCell ?_ ?_ _) | (with_reducible refine Below.drew ?_) | (with_reducible refine below_drewN ?_ _) | (with_reducible assumption) | (with_reducible refine below_after (by with_reducible assumption) ?_) | go_size))⟩
/-- How high a corner is. -/
def hgt (ps : List (Int × Int)) (x y : Int) (k : Nat) : Int := x * (pl ps k).1 + y * (pl ps k).2
theorem hgt_bd {ps : List (Int × Int)} (h : inC ps = true) (h0 : 0 < ps.length) {x y : Int} (hp : isPt (x, y) = true) (k : Nat) :
    (-1000000000 ≤ x * (pl ps k).1 ∧ x * (pl ps k).1 ≤ 1000000000) ∧ (-1000000000 ≤ y * (pl ps k).2 ∧ y * (pl ps k).2 ≤ 1000000000) ∧ -2000000000 ≤ hgt ps x y k ∧ hgt ps x y k ≤ 2000000000 := by
  obtain ⟨a, b⟩ := inC_pl h h0 k
  have c := isPt_c1 hp
  have d := isPt_c2 hp
  unfold Sml at a b
  have m1 := mul_bd (A := 1000000) (B := 1000) c.1 c.2 a.1 a.2
  have m2 := mul_bd (A := 1000000) (B := 1000) d.1 d.2 b.1 b.2
  unfold hgt
  omega
def wdL (ps : List (Int × Int)) (x y : Int) : Int := mxK (hgt ps x y) ps.length - mnK (hgt ps x y) ps.length
def wdV (ps : List (Int × Int)) (x y : Int) : Int := if isP ps = true then (if isPr x y = true then wdL ps x y else 0) else 0
def wdC (ps : List (Int × Int)) (x y : Int) : Int := if isP ps = true then (if isPt (x, y) = true then (if isPr x y = true then 0 else 5) else 1) else 1
theorem wd_no {ps : List (Int × Int)} {x y : Int} (h : isP ps = false) : wdV ps x y = 0 ∧ wdC ps x y = 1 := by unfold wdV wdC; rw [h]; exact ⟨rfl, rfl⟩
theorem wd_pt {ps : List (Int × Int)} {x y : Int} (h : isP ps = true) (hk : isPt (x, y) = false) : wdV ps x y = 0 ∧ wdC ps x y = 1 := by
  have : isPr x y = false := by unfold isPr; rw [hk]; rfl
  unfold wdV wdC; rw [h, hk, this]; exact ⟨rfl, rfl⟩
theorem wd_pr {ps : List (Int × Int)} {x y : Int} (h : isP ps = true) (hk : isPt (x, y) = true) (hr : isPr x y = false) : wdV ps x y = 0 ∧ wdC ps x y = 5 := by unfold wdV wdC; rw [h, hk, hr]; exact ⟨rfl, rfl⟩
theorem wd_yes {ps : List (Int × Int)} {x y : Int} (h : isP ps = true) (hr : isPr x y = true) : wdV ps x y = wdL ps x y ∧ wdC ps x y = 0 := by
  have : isPt (x, y) = true := by unfold isPr at hr; rw [Bool.and_eq_true] at hr; exact hr.1
  unfold wdV wdC; rw [h, this, hr]; exact ⟨rfl, rfl⟩
def hL (f : Nat → Int) (n k : Nat) : List Int := (List.range n).map fun j => if j < k then f j else 0
theorem hL_len (f : Nat → Int) (n k : Nat) : (hL f n k).length = n := by simp [hL]
theorem hL_set (f : Nat → Int) (n k : Nat) : (hL f n k).set k (f k) = hL f n (k + 1) := by
  apply List.ext_getElem
  · simp [hL]
  · intro i h1 h2
    rw [List.getElem_set]
    simp only [hL, List.getElem_map, List.getElem_range]
    by_cases h : k = i
    · subst h; rw [if_pos rfl, if_pos (by omega)]
    · rw [if_neg h]
      by_cases h3 : i < k
      · rw [if_pos h3, if_pos (by omega)]
      · rw [if_neg h3, if_neg (by omega)]
theorem hL_zero (f : Nat → Int) (n : Nat) : hL f n 0 = List.replicate n 0 := by
  apply List.ext_getElem
  · simp [hL]
  · intro i h1 h2; simp [hL]
theorem hL_get (f : Nat → Int) {n j : Nat} (h : j < n) : (hL f n n).getD j 0 = f j := by simp [hL, List.getD, h]
set_option maxHeartbeats 4000000 in
theorem impl_WidthFor_any (a : Option Addr) (n cap : Nat) (ps : List (Int × Int)) (x y : Int) (w : World) (h : LV w a n ps) : Calls Try.prog 51 #[.slice a n cap, .agg #[.int .i64 x, .int .i64 y]] w fun e w' => e = .returned (.tuple #[.int .i64 (wdV ps x y), .int .i64 (wdC ps x y)]) ∧ Below w.heap.size w w' := by
  have HI := Lib.hid (fun w1 (hb : Below w.heap.size w w1) => impl_IsPolygon_any a n cap ps w1 (h.below hb))
  have HX : Hid (∀ W', Below (w.alloc (.cells #[.int .i64 x, .int .i64 y] 38)).heap.size (w.alloc (.cells #[.int .i64 x, .int .i64 y] 38)) W' → W'.cell? ⟨w.heap.size, 0, none⟩ = some (.int .i64 x) ∧ W'.cell? ⟨w.heap.size, 1, none⟩ = some (.int .i64 y)) := by
    intro W' hB
    exact ⟨by rw [hB.cell (p := ⟨w.heap.size, 0, none⟩) (by simp)]; go_cell, by rw [hB.cell (p := ⟨w.heap.size, 1, none⟩) (by simp)]; go_cell⟩
  cases hp : isP ps
  · rw [(wd_no hp).1, (wd_no hp).2]
    rw [hp] at HI
    clear h hp
    go_enter Try.func51, Try.ntmps51
    go_wp2_with (go_at_call 20; refine (HI.out _ (by (repeat' (first | (with_reducible exact Below.refl _ _) | (with_reducible refine Below.alloc ?_ ?_ _) | (with_reducible refine Below.setCell ?_ ?_ _) | (with_reducible refine Below.drew ?_) | (with_reducible refine below_drewN ?_ _) | (with_reducible assumption) | (with_reducible refine below_after (by with_reducible assumption) ?_) | go_size)))).mono ?_; rintro e w1 ⟨rfl, hb⟩; obtain ⟨q0, q1⟩ := HX.out _ hb)
    refine bodyPost_ret (v := .tuple #[.int .i64 0, .int .i64 1]) (by simp (maxDischargeDepth := 8) [results, Try.results51, go_sem, *]) rfl ?_
    exact ⟨rfl, by (repeat' (first | (with_reducible exact Below.refl _ _) | (with_reducible refine Below.alloc ?_ ?_ _) | (with_reducible refine Below.setCell ?_ ?_ _) | (with_reducible refine Below.drew ?_) | (with_reducible refine below_drewN ?_ _) | (with_reducible assumption) | (with_reducible refine below_after (by with_reducible assumption) ?_) | go_size))⟩
  · rw [hp] at HI
    have HL := Lib.hid (h.poly hp)
    have HK := Lib.hid (isPoint_any x y)
    have HR := Lib.hid (isPrimitive_any x y)
    cases hk : isPt (x, y)
    · rw [(wd_pt hp hk).1, (wd_pt hp hk).2]
      rw [hk] at HK
      clear h hp hk HR
      go_enter Try.func51, Try.ntmps51
      go_wp2_with (first | (go_at_call 20; refine (HI.out _ (by (repeat' (first | (with_reducible exact Below.refl _ _) | (with_reducible refine Below.alloc ?_ ?_ _) | (with_reducible refine Below.setCell ?_ ?_ _) | (with_reducible refine Below.drew ?_) | (with_reducible refine below_drewN ?_ _) | (with_reducible assumption) | (with_reducible refine below_after (by with_reducible assumption) ?_) | go_size)))).mono ?_; rintro e w1 ⟨rfl, hb⟩; obtain ⟨q0, q1⟩ := HX.out _ hb) | (go_at_call 74; refine (HK.out _).mono ?_; rintro e w2 ⟨rfl, hb2⟩))
      refine bodyPost_ret (v := .tuple #[.int .i64 0, .int .i64 1]) (by simp (maxDischargeDepth := 8) [results, Try.results51, go_sem, *]) rfl ?_
      exact ⟨rfl, by (repeat' (first | (with_reducible exact Below.refl _ _) | (with_reducible refine Below.alloc ?_ ?_ _) | (with_reducible refine Below.setCell ?_ ?_ _) | (with_reducible refine Below.drew ?_) | (with_reducible refine below_drewN ?_ _) | (with_reducible assumption) | (with_reducible refine below_after (by with_reducible assumption) ?_) | go_size))⟩
    · cases hr : isPr x y
      · rw [(wd_pr hp hk hr).1, (wd_pr hp hk hr).2]
        rw [hk] at HK
        rw [hr] at HR
        clear h hp hk hr
        go_enter Try.func51, Try.ntmps51
        go_wp2_with (first | (go_at_call 20; refine (HI.out _ (by (repeat' (first | (with_reducible exact Below.refl _ _) | (with_reducible refine Below.alloc ?_ ?_ _) | (with_reducible refine Below.setCell ?_ ?_ _) | (with_reducible refine Below.drew ?_) | (with_reducible refine below_drewN ?_ _) | (with_reducible assumption) | (with_reducible refine below_after (by with_reducible assumption) ?_) | go_size)))).mono ?_; rintro e w1 ⟨rfl, hb⟩; obtain ⟨q0, q1⟩ := HX.out _ hb) | (go_at_call 74; refine (HK.out _).mono ?_; rintro e w2 ⟨rfl, hb2⟩; obtain ⟨q2, q3⟩ := HX.out _ (below_after hb2 hb)) | (go_at_call 95; refine (HR.out _).mono ?_; rintro e w3 ⟨rfl, hb3⟩))
        refine bodyPost_ret (v := .tuple #[.int .i64 0, .int .i64 5]) (by simp (maxDischargeDepth := 8) [results, Try.results51, go_sem, *]) rfl ?_
        exact ⟨rfl, by (repeat' (first | (with_reducible exact Below.refl _ _) | (with_reducible refine Below.alloc ?_ ?_ _) | (with_reducible refine Below.setCell ?_ ?_ _) | (with_reducible refine Below.drew ?_) | (with_reducible refine below_drewN ?_ _) | (with_reducible assumption) | (with_reducible refine below_after (by with_reducible assumption) ?_) | go_size))⟩
      · rw [(wd_yes hp hr).1, (wd_yes hp hr).2]
        rw [hk] at HK
        rw [hr] at HR
        have HL2 := HL.out
        obtain ⟨g, rfl, h1, h2, h3, h4, h5, h6⟩ := HL2
        have HBD := Lib.hid (fun k => hgt_bd h6 (show 0 < ps.length by omega) hk k)
        have HD : Hid (wdL ps x y = mxK (hgt ps x y) n - mnK (hgt ps x y) n) := by show _ = _; unfold wdL; rw [h1]
        have HMX := Lib.hid (mxK_bd (A := 2000000000) (by omega) (fun k => (HBD.out k).2.2) n)
        have HMN := Lib.hid (mnK_bd (A := 2000000000) (by omega) (fun k => (HBD.out k).2.2) n)
        have HC := Lib.hid h5
        have HPS := Lib.hid h1
        have HFU : Hid (∀ k, hgt ps x y k = x * (pl ps k).1 + y * (pl ps k).2) := fun k => rfl
        obtain ⟨f, hf⟩ : ∃ f, hgt ps x y = f := ⟨_, rfl⟩
        rw [hf] at HBD HD HMX HMN HFU
        rw [HD.out]
        obtain ⟨i0, hi, hz0, hz1, hz2⟩ := info_parts info_int
        clear h hp hk hr hf h1 h5 h6 HL HD
        go_enter Try.func51, Try.ntmps51
        go_wp2_with (first | (go_at_call 20; refine (HI.out _ (by (repeat' (first | (with_reducible exact Below.refl _ _) | (with_reducible refine Below.alloc ?_ ?_ _) | (with_reducible refine Below.setCell ?_ ?_ _) | (with_reducible refine Below.drew ?_) | (with_reducible refine below_drewN ?_ _) | (with_reducible assumption) | (with_reducible refine below_after (by with_reducible assumption) ?_) | go_size)))).mono ?_; rintro e w1 ⟨rfl, hb⟩; obtain ⟨q0, q1⟩ := HX.out _ hb) | (go_at_call 74; refine (HK.out _).mono ?_; rintro e w2 ⟨rfl, hb2⟩; obtain ⟨q2, q3⟩ := HX.out _ (below_after hb2 hb)) | (go_at_call 95; refine (HR.out _).mono ?_; rintro e w3 ⟨rfl, hb3⟩) | (at_make; refine wpList_make_full _ rfl _ _ 74 rfl w3.heap.size 2 i0 (.int .i64 0) 1 Try.underlying74 hi hz0 hz1 .i64 .i64 _ _ n rfl rfl rfl rfl (by rw [hz2]; omega) (by unfold maxLen; omega) (Nat.le_refl _) ?_; intro w4 hown hgr))
        have HO : Hid (w4.ownsRow w3.heap.size 2 1 (.slice (some ⟨w3.heap.size, 0, none⟩) n n) n ((hL f n 0).map (Value.int .i64))) := by
          have e : (madeCells (Value.int .i64 0).cells (n * 1)).toList = (hL f n 0).map (Value.int .i64) := by
            rw [hL_zero]
            apply List.ext_getElem
            · have := hown.1; simp only [List.length_map, List.length_replicate]; omega
            · intro i p1 p2
              simp [madeCells, Value.cells, Nat.mod_one]
          rw [← e]; exact hown
        have HQ3 : Hid (∀ W, Below w3.heap.size w3 W → W.cell? ⟨w.heap.size, 0, none⟩ = some (.int .i64 x) ∧ W.cell? ⟨w.heap.size, 1, none⟩ = some (.int .i64 y) ∧ PtCells W g 0 ps) := by
          have bb : Below (w.alloc (.cells #[.int .i64 x, .int .i64 y] 38)).heap.size (w.alloc (.cells #[.int .i64 x, .int .i64 y] 38)) w3 := below_after hb3 (below_after hb2 hb)
          have bw : Below w.heap.size w w3 := by (repeat' (first | (with_reducible exact Below.refl _ _) | (with_reducible refine Below.alloc ?_ ?_ _) | (with_reducible refine Below.setCell ?_ ?_ _) | (with_reducible refine Below.drew ?_) | (with_reducible refine below_drewN ?_ _) | (with_reducible assumption) | (with_reducible refine below_after (by with_reducible assumption) ?_) | go_size))
          intro W hW
          obtain ⟨a, b⟩ := HX.out W (below_after hW bb)
          exact ⟨a, b, ptCells_kept HC.out ((below_after hW bw).block g h4)⟩
        have HB3 : Hid (Below w.heap.size w w3) := by show Below w.heap.size w w3; (repeat' (first | (with_reducible exact Below.refl _ _) | (with_reducible refine Below.alloc ?_ ?_ _) | (with_reducible refine Below.setCell ?_ ?_ _) | (with_reducible refine Below.drew ?_) | (with_reducible refine below_drewN ?_ _) | (with_reducible assumption) | (with_reducible refine below_after (by with_reducible assumption) ?_) | go_size))
        have HB4 : Hid (Below w3.heap.size w3 w4) := (Below.refl _ _).grown hgr (Nat.le_refl _) (fun k hk => by cases hk)
        obtain ⟨g2, hg2⟩ : ∃ g2, g2 = w3.heap.size := ⟨_, rfl⟩
        have HG2 := Lib.hid hg2
        rw [← hg2] at HO ⊢
        clear hown hgr hg2 q0 q1 q2 q3 hb hb2 hb3 HX
        go_wp2_with fail
        go_loopw [25] (fun t25 wr => ∃ k : Nat, k ≤ n ∧ t25 = .int .i64 (k : Int) ∧ wr.ownsRow g2 2 1 (.slice (some ⟨g2, 0, none⟩) n n) n ((hL f n k).map (Value.int .i64)) ∧ Below w3.heap.size w3 wr) (fun t25 _ => n - (intOf t25).toNat)
        case atStart => exact ⟨0, by omega, rfl, HO.out, HB4.out⟩
        case round =>
          obtain ⟨k, hk, rfl, hown, hbel⟩ := hrel
          by_cases hlt : k < n
          · obtain ⟨p0, p1, p2⟩ := HQ3.out wr hbel
            have hps := HPS.out
            obtain ⟨z0, z1⟩ := p2 k (by omega)
            obtain ⟨⟨m1, m2⟩, ⟨m3, m4⟩, m5, m6⟩ := HBD.out k
            have hfu := HFU.out k
            have epl : pl ps k = ps.getD k (0, 0) := pl_lt (by omega)
            rw [epl] at m1 m2 m3 m4 hfu
            obtain ⟨X0, X1, hX⟩ : ∃ a b, ps.getD k (0, 0) = (a, b) := ⟨_, _, rfl⟩
            rw [hX] at m1 m2 m3 m4 hfu z0 z1
            dsimp only at m1 m2 m3 m4 hfu
            rw [Nat.zero_add] at z0 z1
            obtain ⟨M, hM⟩ : ∃ M, x * X0 = M := ⟨_, rfl⟩
            obtain ⟨N, hN⟩ : ∃ N, y * X1 = N := ⟨_, rfl⟩
            have qx : IntKind.i64.wrap (x * X0) = x * X0 := by rw [IntKind.wrap_i64]; omega
            have qy : IntKind.i64.wrap (y * X1) = y * X1 := by rw [IntKind.wrap_i64]; omega
            have qz : IntKind.i64.wrap (x * X0 + y * X1) = f k := by rw [IntKind.wrap_i64, hfu]; omega
            have lw := World.block_lt_of_cell? wr _ p0
            have lg2 := (World.ownsRow.lt hown g2 rfl).2
            have e2 := World.ownsRow.cellAt hown k (by omega)
            have e3 := World.ownsRow.frozenAt hown k
            have hst := World.ownsRow.stored hown k (.int .i64 (f k))
            rw [← List.map_set, hL_set] at hst
            have S1 := Lib.hid hst.1
            obtain ⟨old, hold⟩ : ∃ old, ((hL f n k).map (Value.int .i64))[k]? = some old := ⟨_, List.getElem?_eq_getElem (by rw [List.length_map, hL_len]; exact hlt)⟩
            rw [hold] at e2
            have HBs : Hid (Below w3.heap.size w3 (wr.setCell ⟨g2, k, none⟩ (.int .i64 (f k)))) := hbel.setCell (by show w3.heap.size ≤ g2; rw [HG2.out]; exact Nat.le_refl _) _
            have HBr := Lib.hid hbel
            have HOw := Lib.hid hown
            have hsz := hbel.size
            clear hst hold epl hX hfu m1 m2 m3 m4 m5 m6 hM hN hbel hown
            go_wp2_with fail
            go_roundw
            case rel => exact ⟨k + 1, by omega, by go_num, S1.out.alloc _, HBs.out.alloc HBs.out.size _⟩
            case measure => simp [intOf]; omega
          · obtain rfl : k = n := by omega
            have hcell : ∀ j, j < k → wr.cell? ⟨g2, j, none⟩ = some (.int .i64 (f j)) := by
              intro j hj
              rw [World.ownsRow.cellAt hown j (by omega), List.getElem?_map]
              have := hL_get f hj
              rw [List.getD_eq_getElem?_getD, List.getElem?_eq_getElem (by rw [hL_len]; exact hj)] at this
              rw [List.getElem?_eq_getElem (by rw [hL_len]; exact hj)]
              simp only [Option.getD_some] at this
              simp [this]
            have HA := Lib.hid (maxI_some f k g2 k wr (by omega) (by omega) hcell)
            have HB := Lib.hid (minI_some f k g2 k wr (by omega) (by omega) hcell)
            obtain ⟨a1, a2⟩ := HMX.out
            obtain ⟨b1, b2⟩ := HMN.out
            obtain ⟨A, hA⟩ : ∃ A, mxK f k = A := ⟨_, rfl⟩
            obtain ⟨B, hB⟩ : ∃ B, mnK f k = B := ⟨_, rfl⟩
            rw [hA] at HA a1 a2
            rw [hB] at HB b1 b2
            have HEA := Lib.hid hA
            have HEB := Lib.hid hB
            have qw : IntKind.i64.wrap (A - B) = A - B := by rw [IntKind.wrap_i64]; omega
            have q1 : ¬ (k : Int) < (k : Int) := by omega
            have hBf := below_after hbel HB3.out
            clear hcell hown hA hB HQ3 HO
            go_wp2_with (first | (go_at_call 96; refine HA.out.mono ?_; rintro e w' ⟨rfl, rfl⟩) | (go_at_call 97; refine HB.out.mono ?_; rintro e w' ⟨rfl, rfl⟩))
            refine bodyPost_ret (v := .tuple #[.int .i64 (A - B), .int .i64 0]) (by simp (maxDischargeDepth := 8) [results, Try.results51, go_sem, *]) rfl ?_
            exact ⟨by rw [HEA.out, HEB.out], hBf⟩
set_option maxHeartbeats 4000000 in
theorem spec_WidthFor_any (a : Option Addr) (n cap : Nat) (ps : List (Int × Int)) (x y : Int) (w : World) (h : LV w a n ps) : Calls Try.prog 50 #[.slice a n cap, .agg #[.int .i64 x, .int .i64 y]] w fun e w' => e = .returned (.tuple #[.int .i64 (wdV ps x y), .int .i64 (wdC ps x y)]) ∧ Below w.heap.size w w' := by
  have HI := Lib.hid (fun w1 (hb : Below w.heap.size w w1) => l09Is_any a n cap ps w1 (h.below hb))
  have HX : Hid (∀ W', Below (w.alloc (.cells #[.int .i64 x, .int .i64 y] 38)).heap.size (w.alloc (.cells #[.int .i64 x, .int .i64 y] 38)) W' → W'.cell? ⟨w.heap.size, 0, none⟩ = some (.int .i64 x) ∧ W'.cell? ⟨w.heap.size, 1, none⟩ = some (.int .i64 y)) := by
    intro W' hB
    exact ⟨by rw [hB.cell (p := ⟨w.heap.size, 0, none⟩) (by simp)]; go_cell, by rw [hB.cell (p := ⟨w.heap.size, 1, none⟩) (by simp)]; go_cell⟩
  cases hp : isP ps
  · rw [(wd_no hp).1, (wd_no hp).2]
    rw [hp] at HI
    clear h hp
    go_enter Try.func50, Try.ntmps50
    go_wp2_with (go_at_call 52; refine (HI.out _ (by (repeat' (first | (with_reducible exact Below.refl _ _) | (with_reducible refine Below.alloc ?_ ?_ _) | (with_reducible refine Below.setCell ?_ ?_ _) | (with_reducible refine Below.drew ?_) | (with_reducible refine below_drewN ?_ _) | (with_reducible assumption) | (with_reducible refine below_after (by with_reducible assumption) ?_) | go_size)))).mono ?_; rintro e w1 ⟨rfl, hb⟩; obtain ⟨q0, q1⟩ := HX.out _ hb)
    refine bodyPost_ret (v := .tuple #[.int .i64 0, .int .i64 1]) (by simp (maxDischargeDepth := 8) [results, Try.results50, go_sem, *]) rfl ?_
    exact ⟨rfl, by (repeat' (first | (with_reducible exact Below.refl _ _) | (with_reducible refine Below.alloc ?_ ?_ _) | (with_reducible refine Below.setCell ?_ ?_ _) | (with_reducible refine Below.drew ?_) | (with_reducible refine below_drewN ?_ _) | (with_reducible assumption) | (with_reducible refine below_after (by with_reducible assumption) ?_) | go_size))⟩
  · rw [hp] at HI
    have HL := Lib.hid (h.poly hp)
    have HK := Lib.hid (l01Is_any x y)
    cases hk : isPt (x, y)
    · rw [(wd_pt hp hk).1, (wd_pt hp hk).2]
      rw [hk] at HK
      clear h hp hk
      go_enter Try.func50, Try.ntmps50
      go_wp2_with (first | (go_at_call 52; refine (HI.out _ (by (repeat' (first | (with_reducible exact Below.refl _ _) | (with_reducible refine Below.alloc ?_ ?_ _) | (with_reducible refine Below.setCell ?_ ?_ _) | (with_reducible refine Below.drew ?_) | (with_reducible refine below_drewN ?_ _) | (with_reducible assumption) | (with_reducible refine below_after (by with_reducible assumption) ?_) | go_size)))).mono ?_; rintro e w1 ⟨rfl, hb⟩; obtain ⟨q0, q1⟩ := HX.out _ hb) | (go_at_call 72; refine (HK.out _).mono ?_; rintro e w2 ⟨rfl, hb2⟩))
      refine bodyPost_ret (v := .tuple #[.int .i64 0, .int .i64 1]) (by simp (maxDischargeDepth := 8) [results, Try.results50, go_sem, *]) rfl ?_
      exact ⟨rfl, by (repeat' (first | (with_reducible exact Below.refl _ _) | (with_reducible refine Below.alloc ?_ ?_ _) | (with_reducible refine Below.setCell ?_ ?_ _) | (with_reducible refine Below.drew ?_) | (with_reducible refine below_drewN ?_ _) | (with_reducible assumption) | (with_reducible refine below_after (by with_reducible assumption) ?_) | go_size))⟩
    · have HG := Lib.hid (fun w => l01Gcd_any x y w (crd_tn0 (isPt_c1 hk)) (crd_tn0 (isPt_c2 hk)))
      rw [hk] at HK
      cases hr : isPr x y
      · rw [(wd_pr hp hk hr).1, (wd_pr hp hk hr).2]
        have hg : (gcdI x y == 1) = false := by unfold isPr at hr; rw [hk] at hr; simpa using hr
        have hg2 : (gcdI x y != 1) = true := by unfold bne; rw [hg]; rfl
        obtain ⟨G, hG⟩ : ∃ G, gcdI x y = G := ⟨_, rfl⟩
        rw [hG] at HG hg2
        clear h hp hk hr hg hG
        go_enter Try.func50, Try.ntmps50
        go_wp2_with (first | (go_at_call 52; refine (HI.out _ (by (repeat' (first | (with_reducible exact Below.refl _ _) | (with_reducible refine Below.alloc ?_ ?_ _) | (with_reducible refine Below.setCell ?_ ?_ _) | (with_reducible refine Below.drew ?_) | (with_reducible refine below_drewN ?_ _) | (with_reducible assumption) | (with_reducible refine below_after (by with_reducible assumption) ?_) | go_size)))).mono ?_; rintro e w1 ⟨rfl, hb⟩; obtain ⟨q0, q1⟩ := HX.out _ hb) | (go_at_call 72; refine (HK.out _).mono ?_; rintro e w2 ⟨rfl, hb2⟩; obtain ⟨q2, q3⟩ := HX.out _ (below_after hb2 hb)) | (go_at_call 94; refine (HG.out _).mono ?_; rintro e w3 ⟨rfl, rfl⟩))
        refine bodyPost_ret (v := .tuple #[.int .i64 0, .int .i64 5]) (by simp (maxDischargeDepth := 8) [results, Try.results50, go_sem, *]) rfl ?_
        exact ⟨rfl, by (repeat' (first | (with_reducible exact Below.refl _ _) | (with_reducible refine Below.alloc ?_ ?_ _) | (with_reducible refine Below.setCell ?_ ?_ _) | (with_reducible refine Below.drew ?_) | (with_reducible refine below_drewN ?_ _) | (with_reducible assumption) | (with_reducible refine below_after (by with_reducible assumption) ?_) | go_size))⟩
      · rw [(wd_yes hp hr).1, (wd_yes hp hr).2]
        have hg : gcdI x y = 1 := by unfold isPr at hr; rw [hk] at hr; simpa using hr
        rw [hg] at HG
        have HL2 := HL.out
        obtain ⟨g, rfl, h1, h2, h3, h4, h5, h6⟩ := HL2
        have HBD := Lib.hid (fun k => hgt_bd h6 (show 0 < ps.length by omega) hk k)
        have HD : Hid (wdL ps x y = mxK (hgt ps x y) n - mnK (hgt ps x y) n) := by show _ = _; unfold wdL; rw [h1]
        have HMX := Lib.hid (mxK_bd (A := 2000000000) (by omega) (fun k => (HBD.out k).2.2))
        have HMN := Lib.hid (mnK_bd (A := 2000000000) (by omega) (fun k => (HBD.out k).2.2))
        have HC := Lib.hid h5
        have HPS := Lib.hid h1
        have HFU : Hid (∀ k, hgt ps x y k = x * (pl ps k).1 + y * (pl ps k).2) := fun k => rfl
        obtain ⟨f, hf⟩ : ∃ f, hgt ps x y = f := ⟨_, rfl⟩
        rw [hf] at HBD HD HMX HMN HFU
        rw [HD.out]
        clear h hp hk hr hf h1 h5 h6 HL HD hg
        go_enter Try.func50, Try.ntmps50
        go_wp2_with (first | (go_at_call 52; refine (HI.out _ (by (repeat' (first | (with_reducible exact Below.refl _ _) | (with_reducible refine Below.alloc ?_ ?_ _) | (with_reducible refine Below.setCell ?_ ?_ _) | (with_reducible refine Below.drew ?_) | (with_reducible refine below_drewN ?_ _) | (with_reducible assumption) | (with_reducible refine below_after (by with_reducible assumption) ?_) | go_size)))).mono ?_; rintro e w1 ⟨rfl, hb⟩; obtain ⟨q0, q1⟩ := HX.out _ hb) | (go_at_call 72; refine (HK.out _).mono ?_; rintro e w2 ⟨rfl, hb2⟩; obtain ⟨q2, q3⟩ := HX.out _ (below_after hb2 hb)) | (go_at_call 94; refine (HG.out _).mono ?_; rintro e w3 ⟨rfl, rfl⟩))
        have HQ3 : Hid (∀ k W, Below w2.heap.size w2 (World.drewN W k) → (World.drewN W k).cell? ⟨w.heap.size, 0, none⟩ = some (.int .i64 x) ∧ (World.drewN W k).cell? ⟨w.heap.size, 1, none⟩ = some (.int .i64 y) ∧ PtCells (World.drewN W k) g 0 ps) := by
          have bb : Below (w.alloc (.cells #[.int .i64 x, .int .i64 y] 38)).heap.size (w.alloc (.cells #[.int .i64 x, .int .i64 y] 38)) w2 := below_after hb2 hb
          have bw : Below w.heap.size w w2 := by (repeat' (first | (with_reducible exact Below.refl _ _) | (with_reducible refine Below.alloc ?_ ?_ _) | (with_reducible refine Below.setCell ?_ ?_ _) | (with_reducible refine Below.drew ?_) | (with_reducible refine below_drewN ?_ _) | (with_reducible assumption) | (with_reducible refine below_after (by with_reducible assumption) ?_) | go_size))
          intro k W hW
          obtain ⟨a, b⟩ := HX.out _ (below_after hW bb)
          exact ⟨a, b, ptCells_kept HC.out ((below_after hW bw).block g h4)⟩
        have HB3 : Hid (Below w.heap.size w w2) := by show Below w.heap.size w w2; (repeat' (first | (with_reducible exact Below.refl _ _) | (with_reducible refine Below.alloc ?_ ?_ _) | (with_reducible refine Below.setCell ?_ ?_ _) | (with_reducible refine Below.drew ?_) | (with_reducible refine below_drewN ?_ _) | (with_reducible assumption) | (with_reducible refine below_after (by with_reducible assumption) ?_) | go_size))
        clear q0 q1 q2 q3 hb hb2 HX
        go_loopw [6, 7, 8] (fun t6 t7 t8 wr => ∃ k : Nat, k ≤ n ∧ t6 = .int .i64 (mnK f k) ∧ t7 = .int .i64 (mxK f k) ∧ t8 = .int .i64 (k : Int) ∧ Below w2.heap.size w2 wr) (fun _ _ t8 _ => n - (intOf t8).toNat)
        case atStart => exact ⟨0, by omega, rfl, rfl, rfl, Below.refl _ _⟩
        case round =>
          obtain ⟨k, hk, rfl, rfl, rfl, hbel⟩ := hrel
          by_cases hlt : k < n
          · obtain ⟨p0, p1, p2⟩ := HQ3.out 0 wr hbel
            have hps := HPS.out
            obtain ⟨z0, z1⟩ := p2 k (by omega)
            obtain ⟨⟨m1, m2⟩, ⟨m3, m4⟩, m5, m6⟩ := HBD.out k
            have hfu := HFU.out k
            have epl : pl ps k = ps.getD k (0, 0) := pl_lt (by omega)
            rw [epl] at m1 m2 m3 m4 hfu
            obtain ⟨X0, X1, hX⟩ : ∃ a b, ps.getD k (0, 0) = (a, b) := ⟨_, _, rfl⟩
            rw [hX] at m1 m2 m3 m4 hfu z0 z1
            dsimp only at m1 m2 m3 m4 hfu
            rw [Nat.zero_add] at z0 z1
            have p0 : wr.cell? ⟨w.heap.size, 0, none⟩ = some (.int .i64 x) := p0
            have p1 : wr.cell? ⟨w.heap.size, 1, none⟩ = some (.int .i64 y) := p1
            have z0 : wr.cell? ⟨g, k * 2, none⟩ = some (.int .i64 X0) := z0
            have z1 : wr.cell? ⟨g, k * 2 + 1, none⟩ = some (.int .i64 X1) := z1
            have qx : IntKind.i64.wrap (x * X0) = x * X0 := by rw [IntKind.wrap_i64]; omega
            have qy : IntKind.i64.wrap (y * X1) = y * X1 := by rw [IntKind.wrap_i64]; omega
            have qz : IntKind.i64.wrap (x * X0 + y * X1) = f k := by rw [IntKind.wrap_i64, hfu]; omega
            have HMG : Hid (mxK f (k + 1) = if k = 0 then f 0 else max (mxK f k) (f k)) := rfl
            have HNG : Hid (mnK f (k + 1) = if k = 0 then f 0 else min (mnK f k) (f k)) := rfl
            clear epl hX hfu m1 m2 m3 m4
            by_cases hk0 : k = 0
            · subst hk0
              have e1 : mxK f 1 = f 0 := rfl
              have e2 : mnK f 1 = f 0 := rfl
              have HE1 := Lib.hid e1
              have HE2 := Lib.hid e2
              clear e1 e2
              go_wp2_with fail
              go_quiet (fail)
              go_wp2_with fail
              go_roundw
              case rel => exact ⟨1, by omega, by rw [HE2.out], by rw [HE1.out], by go_num, by (repeat' (first | (with_reducible exact Below.refl _ _) | (with_reducible refine Below.alloc ?_ ?_ _) | (with_reducible refine Below.setCell ?_ ?_ _) | (with_reducible refine Below.drew ?_) | (with_reducible refine below_drewN ?_ _) | (with_reducible assumption) | (with_reducible refine below_after (by with_reducible assumption) ?_) | go_size))⟩
              case measure => simp [intOf]; omega
            · have hkb : ((k : Int) == 0) = false := by simp [hk0]
              have HM2 : Hid (mxK f (k + 1) = max (mxK f k) (f k)) := by show _ = _; rw [HMG.out, if_neg hk0]
              have HN2 : Hid (mnK f (k + 1) = min (mnK f k) (f k)) := by show _ = _; rw [HNG.out, if_neg hk0]
              obtain ⟨MX, hMX⟩ : ∃ v, mxK f k = v := ⟨_, rfl⟩
              obtain ⟨MN, hMN⟩ : ∃ v, mnK f k = v := ⟨_, rfl⟩
              obtain ⟨F, hF⟩ : ∃ v, f k = v := ⟨_, rfl⟩
              rw [hMX, hF] at HM2
              rw [hMN, hF] at HN2
              rw [hF] at qz
              rw [hMX, hMN]
              clear hMX hMN hF HMG HNG m5 m6
              by_cases c1 : F < MN <;> by_cases c2 : MX < F
              all_goals
                go_wp2_with fail
                go_quiet (fail)
                go_wp2_with fail
                go_roundw
                case rel => exact ⟨k + 1, by omega, by rw [HN2.out]; congr 1; omega, by rw [HM2.out]; congr 1; omega, by go_num, by (repeat' (first | (with_reducible exact Below.refl _ _) | (with_reducible refine Below.alloc ?_ ?_ _) | (with_reducible refine Below.setCell ?_ ?_ _) | (with_reducible refine Below.drew ?_) | (with_reducible refine below_drewN ?_ _) | (with_reducible assumption) | (with_reducible refine below_after (by with_reducible assumption) ?_) | go_size))⟩
                case measure => simp [intOf]; omega
          · obtain rfl : k = n := by omega
            obtain ⟨a1, a2⟩ := HMX.out k
            obtain ⟨b1, b2⟩ := HMN.out k
            obtain ⟨A, hA⟩ : ∃ A, mxK f k = A := ⟨_, rfl⟩
            obtain ⟨B, hB⟩ : ∃ B, mnK f k = B := ⟨_, rfl⟩
            rw [hA] at a1 a2 ⊢
            rw [hB] at b1 b2 ⊢
            have HEA := Lib.hid hA
            have HEB := Lib.hid hB
            have qw : IntKind.i64.wrap (A - B) = A - B := by rw [IntKind.wrap_i64]; omega
            have q1 : ¬ (k : Int) < (k : Int) := by omega
            have hBf := below_after hbel HB3.out
            clear hA hB HQ3
            go_wp2_with fail
            refine bodyPost_ret (v := .tuple #[.int .i64 (A - B), .int .i64 0]) (by simp (maxDischargeDepth := 8) [results, Try.results50, go_sem, *]) rfl ?_
            exact ⟨by rw [HEA.out, HEB.out], hBf⟩
end Go.Proofs.Ytkfoelkkllpmdaa
