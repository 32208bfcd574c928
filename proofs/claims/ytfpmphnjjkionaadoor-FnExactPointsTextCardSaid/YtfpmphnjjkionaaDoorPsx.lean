/-
  The texts of lists of points on both sides; strings.Join by its contract (own work).
-/
import Derived.Test.YtfpmphnjjkionaaDoorPtx
import Derived.Test.YtfpmphnjjkionaaDoorRowP
import Derived.Test.YtfpmphnjjkionaaDoorShelfJ
import Derived.Lib.Join
import Derived.Deep.RegionWith
namespace Go.Proofs.YtfpmphnjjkionaaDoor
open Go.ChangeShapes Go.WideShapes Go.ChangeAt Go.RowKit
set_option linter.unusedVariables false
set_option linter.unusedSimpArgs false
set_option maxRecDepth 100000

def txB (p : Int × Int) : List UInt8 := Lib.itoa p.1 ++ [44] ++ Lib.itoa p.2
theorem txP_eq (x y : Int) : txP x y = ⟨(txB (x, y)).toArray⟩ := by
  unfold txP txB
  rw [show (#[44] : Array UInt8) = [44].toArray from rfl, text_cat, text_cat]
/-- The texts of points with a semicolon between them. -/
def jn (ps : List (Int × Int)) : List UInt8 := Lib.join (ps.map txB) [59]
def jnV (ps : List (Int × Int)) : ByteArray := if ps.all isPt = true ∧ ps.length ≤ 100 then ⟨(jn ps).toArray⟩ else ⟨#[]⟩
def jnC (ps : List (Int × Int)) : Int := if ps.all isPt = true then (if ps.length ≤ 100 then 0 else 2) else 1
theorem jn_one (p : Int × Int) : jn [p] = txB p := Lib.join_one _ _
theorem jn_snoc (ps : List (Int × Int)) (p : Int × Int) (h : ps ≠ []) : jn (ps ++ [p]) = jn ps ++ [59] ++ txB p := by
  cases ps with
  | nil => exact absurd rfl h
  | cons q r =>
    unfold jn
    rw [List.map_append, List.map_cons, List.cons_append, Lib.join_cons, Lib.join_cons]
    simp [Lib.joinTail]
theorem txB_len {p : Int × Int} (h : isPt p = true) : (txB p).length ≤ 20000010 := by
  obtain ⟨a1, a2⟩ := isPt_c1 (x := p.1) (y := p.2) h
  obtain ⟨b1, b2⟩ := isPt_c2 (x := p.1) (y := p.2) h
  have := itoa_len (n := p.1) (by omega) (by omega)
  have := itoa_len (n := p.2) (by omega) (by omega)
  unfold txB
  simp
  omega
theorem jt_len : ∀ r : List (Int × Int), r.all isPt = true → (Lib.joinTail [59] (r.map txB)).length ≤ r.length * 20000011
  | [], _ => by simp [Lib.joinTail]
  | p :: r, h => by
    rw [List.all_cons, Bool.and_eq_true] at h
    have h1 := txB_len h.1
    have h2 := jt_len r h.2
    simp only [Lib.joinTail, List.map_cons, List.flatten_cons, List.length_append, List.length_cons, List.length_nil] at *
    omega
theorem jn_len (ps : List (Int × Int)) (h : ps.all isPt = true) : (jn ps).length ≤ ps.length * 20000011 := by
  cases ps with
  | nil => simp [jn, Lib.join_nil]
  | cons p r =>
    rw [List.all_cons, Bool.and_eq_true] at h
    have h1 := txB_len h.1
    have h2 := jt_len r h.2
    unfold jn
    rw [List.map_cons, Lib.join_cons, List.length_append, List.length_cons]
    omega
theorem all_at {ps : List (Int × Int)} (h : ps.all isPt = true) {k : Nat} (hk : k < ps.length) : isPt (ps.getD k (0, 0)) = true := by
  rw [List.all_eq_true] at h
  have := h (ps[k]) (List.getElem_mem hk)
  simpa [List.getD, hk] using this
theorem all_take {ps : List (Int × Int)} (h : ps.all isPt = true) (k : Nat) : (ps.take k).all isPt = true := by
  rw [List.all_eq_true] at h ⊢
  exact fun x hx => h x (List.mem_of_mem_take hx)
theorem take_snocI (ps : List (Int × Int)) (j : Nat) (h : j < ps.length) : ps.take (j + 1) = ps.take j ++ [ps.getD j (0, 0)] := by
  rw [List.take_add_one, List.getElem?_eq_getElem h]
  simp [List.getD, h]
set_option maxHeartbeats 4000000 in
theorem l01ListText_some (ps : List (Int × Int)) (g cp n : Nat) (w : World) (hN : ps.length = n) (h1 : 1 ≤ n) (hl : n ≤ 100) (hp : ps.all isPt = true) (hg : g < w.heap.size) (hc : PtCells w g 0 ps) :
    Calls Tryd.prog 29 #[.slice (some ⟨g, 0, none⟩) n cp] w fun e w' => e = .returned (.string ⟨(jn ps).toArray⟩) ∧ Below w.heap.size w w' := by
  have HN := Lib.hid hN
  have HL := Lib.hid hl
  have HP := Lib.hid hp
  have HC := Lib.hid hc
  obtain ⟨R, hR⟩ : ∃ R, (⟨(jn ps).toArray⟩ : ByteArray) = R := ⟨_, rfl⟩
  rw [hR]
  have HR := Lib.hid hR
  clear hN hp hc hR
  go_enter Tryd.func29, Tryd.ntmps29
  go_wp2
  go_loopw [3, 4] (fun t i wr => ∃ (k : Nat) (T : ByteArray), k ≤ n ∧ t = .string T ∧ i = .int .i64 (k : Int) ∧ T = ⟨(jn (ps.take k)).toArray⟩ ∧ Below w.heap.size w wr) (fun _ i _ => n - (intOf i).toNat)
  case atStart => exact ⟨0, ⟨#[]⟩, by omega, rfl, rfl, rfl, Below.refl _ _⟩
  case round =>
    obtain ⟨k, T, hk, rfl, rfl, hT, hbel⟩ := hrel
    have HT := Lib.hid hT
    have HBL := Lib.hid hbel
    by_cases hlt : k < n
    · obtain ⟨⟨x, y⟩, hxy⟩ : ∃ p, ps.getD k (0, 0) = p := ⟨_, rfl⟩
      obtain ⟨d1, d2⟩ := HC.out k (by rw [HN.out]; exact hlt)
      have hpt := all_at HP.out (k := k) (by rw [HN.out]; exact hlt)
      rw [hxy] at d1 d2 hpt
      rw [Nat.zero_add] at d1 d2
      have e1 := (hbel.cell (p := ⟨g, k * 2, none⟩) hg).trans d1
      have e2 := (hbel.cell (p := ⟨g, k * 2 + 1, none⟩) hg).trans d2
      dsimp only at e1 e2
      obtain ⟨a1, a2⟩ := isPt_c1 hpt
      obtain ⟨b1, b2⟩ := isPt_c2 hpt
      obtain ⟨B, hB⟩ : ∃ B, txP x y = B := ⟨_, rfl⟩
      have HTX : Hid (∀ w, Calls Tryd.prog 23 #[.agg #[.int .i64 x, .int .i64 y]] w fun e w' => e = .returned (.string B) ∧ Below w.heap.size w w') := fun w => by
        have := l01Text_any x y w (by omega) (by omega) (by omega) (by omega)
        rw [hB] at this; exact this
      have hTs : T.size ≤ 2000001100 := by
        have := jn_len (ps.take k) (all_take HP.out k)
        have hz : T.size = (jn (ps.take k)).length := by rw [hT]; simp [ByteArray.size]
        rw [hz]
        simp only [List.length_take] at this
        omega
      have hBs : B.size ≤ 20000010 := by
        have := txB_len (p := (x, y)) hpt
        have hz : B.size = (txB (x, y)).length := by rw [← hB, txP_eq]; simp [ByteArray.size]
        rw [hz]; exact this
      have q1 : ¬ 9223372036854775807 < T.size + 1 := by omega
      have q2 : ¬ 9223372036854775807 < T.size + B.size := by omega
      have q3 : ¬ 9223372036854775807 < T.size + 1 + B.size := by omega
      have HBE : Hid (B = ⟨(txB (x, y)).toArray⟩) := by show B = _; rw [← hB, txP_eq]
      have HXY := Lib.hid hxy
      have i0 : (0 : Int) ≤ (k : Int) := by omega
      have i1 : (k : Int) < (n : Int) := by omega
      have i2 : (n : Int) ≤ 100 := by omega
      have HLT := Lib.hid hlt
      by_cases hk0 : k = 0
      · have i3 : ¬ (0 : Int) < (k : Int) := by omega
        have i4 : (k : Int) ≤ 0 := by omega
        have HST : Hid (T ++ B = ⟨(jn (ps.take (k + 1))).toArray⟩) := by
          show _ = _
          have e : ps.take (k + 1) = ps.take k ++ [(x, y)] := by rw [take_snocI ps k (by rw [HN.out]; exact hlt), hxy]
          have e0 : ps.take k = [] := by rw [hk0]; rfl
          rw [hT, HBE.out, text_cat, e, e0, List.nil_append, jn_one]
          rfl
        clear hT hxy hpt hB hTs hBs hbel d1 d2 hk0 hk hlt
        go_wp2_with (go_at_call 23; refine (HTX.out _).mono ?_; rintro e wc ⟨rfl, hbc⟩)
        go_roundw
        case rel => exact ⟨k + 1, _, by have := HLT.out; omega, rfl, by go_num, HST.out, below_after hbc HBL.out⟩
        case measure => have := HLT.out; simp [intOf]; omega
      · have i3 : (0 : Int) < (k : Int) := by omega
        have HST : Hid (T ++ ⟨#[59]⟩ ++ B = ⟨(jn (ps.take (k + 1))).toArray⟩) := by
          show _ = _
          have hne : ps.take k ≠ [] := by
            intro e
            have := congrArg List.length e
            rw [List.length_take, HN.out] at this
            have h0 : min k n = 0 := this
            omega
          rw [hT, HBE.out, show (#[59] : Array UInt8) = [59].toArray from rfl, text_cat, text_cat, take_snocI ps k (by rw [HN.out]; exact hlt), hxy, jn_snoc _ _ hne]
        clear hT hxy hpt hB hTs hBs hbel d1 d2 hk0 hk hlt
        go_wp2_with (go_at_call 23; refine (HTX.out _).mono ?_; rintro e wc ⟨rfl, hbc⟩)
        go_roundw
        case rel => exact ⟨k + 1, _, by have := HLT.out; omega, rfl, by go_num, HST.out, below_after hbc HBL.out⟩
        case measure => have := HLT.out; simp [intOf]; omega
    · have hkn : k = n := by omega
      have HE : Hid (T = R) := by
        show T = R
        rw [hT, hkn, ← HN.out, List.take_length, HR.out]
      have i1 : ¬ (k : Int) < (n : Int) := by omega
      clear hT hbel hk hlt
      go_wp2
      go_ret
      exact ⟨by rw [← HE.out]; rfl, HBL.out⟩
theorem spec_PointsText_none (a : Option Addr) (cp : Nat) (w : World) : Calls Tryd.prog 14 #[.slice a 0 cp] w fun e w' => e = .returned (.tuple #[.string ⟨#[]⟩, .int .i64 0]) ∧ Below w.heap.size w w' := by
  have HC : Hid (∀ w, Calls Tryd.prog 41 #[.slice a 0 cp] w fun e w' => e = .returned (.int .i64 0) ∧ w = w') := by
    intro w
    go_enter Tryd.func41, Tryd.ntmps41
    go_wp2
    refine wp_loop_rounds 1 ?_
    rw [rounds_succ]
    go_wp2
    go_ret
    exact ⟨rfl, rfl⟩
  have HP : Hid (∀ w, Calls Tryd.prog 28 #[.slice a 0 cp] w fun e w' => e = .returned (.int .i64 0) ∧ w = w') := by
    intro w
    go_enter Tryd.func28, Tryd.ntmps28
    go_wp2_with (go_at_call 41; refine (HC.out _).mono ?_; rintro e wn ⟨rfl, rfl⟩)
    go_ret
    exact ⟨rfl, rfl⟩
  have HT : Hid (∀ w, Calls Tryd.prog 29 #[.slice a 0 cp] w fun e w' => e = .returned (.string ⟨#[]⟩) ∧ w = w') := by
    intro w
    go_enter Tryd.func29, Tryd.ntmps29
    go_wp2
    refine wp_loop_rounds 1 ?_
    rw [rounds_succ]
    go_wp2
    go_ret
    exact ⟨rfl, rfl⟩
  go_enter Tryd.func14, Tryd.ntmps14
  go_wp2_with (first | (go_at_call 28; refine (HP.out _).mono ?_; rintro e wn ⟨rfl, rfl⟩) | (go_at_call 29; refine (HT.out _).mono ?_; rintro e wn ⟨rfl, rfl⟩))
  go_ret2
  exact ⟨rfl, by (repeat' (first | (with_reducible exact Below.refl _ _) | (with_reducible refine Below.alloc ?_ ?_ _) | (with_reducible refine Below.setCell ?_ ?_ _) | (with_reducible refine Below.drew ?_) | (with_reducible refine below_drewN ?_ _) | (with_reducible assumption) | (with_reducible refine below_after (by with_reducible assumption) ?_) | go_size))⟩
theorem spec_PointsText_some (ps : List (Int × Int)) (g cp n : Nat) (w : World) (hN : ps.length = n) (h1 : 1 ≤ n) (hl : n ≤ 1048576) (hg : g < w.heap.size) (hc : PtCells w g 0 ps) :
    Calls Tryd.prog 14 #[.slice (some ⟨g, 0, none⟩) n cp] w fun e w' => e = .returned (.tuple #[.string (jnV ps), .int .i64 (jnC ps)]) ∧ Below w.heap.size w w' := by
  have HN := Lib.hid hN
  have HC := Lib.hid hc
  have HCD : Hid (Calls Tryd.prog 41 #[.slice (some ⟨g, 0, none⟩) n cp] w fun e w' => e = .returned (.int .i64 (bif ps.all isPt then 0 else 1)) ∧ Below w.heap.size w w') := by
    have := l01Code_any ps g 0 cp w hg (by omega) hc
    rw [hN] at this
    exact this
  have hi : (n : Int) ≤ 1048576 := by omega
  cases h : ps.all isPt
  · have e1 : jnV ps = ⟨#[]⟩ := by unfold jnV; rw [h]; simp
    have e2 : jnC ps = 1 := by unfold jnC; rw [h]; rfl
    rw [e1, e2]
    rw [h] at HCD
    have HP : Hid (Calls Tryd.prog 28 #[.slice (some ⟨g, 0, none⟩) n cp] w fun e w' => e = .returned (.int .i64 1) ∧ Below w.heap.size w w') := by
      show Calls _ _ _ _ _
      go_enter Tryd.func28, Tryd.ntmps28
      go_wp2_with (go_at_call 41; refine (HCD.out).mono ?_; rintro e wn ⟨rfl, hb⟩; first | (have h2 := after_call2 hb hcl hfr hlt (by ((repeat' (first | (with_reducible exact Below.refl _ _) | (with_reducible refine Below.alloc ?_ ?_ _) | (with_reducible refine Below.setCell ?_ ?_ _) | (with_reducible refine Below.drew ?_) | (with_reducible refine below_drewN ?_ _) | (with_reducible assumption) | (with_reducible refine below_after (by with_reducible assumption) ?_) | go_size)); done)); obtain ⟨hclx, hfrx, hltx, hsz⟩ := after_call hb; (try simp only [World.size_alloc, World.size_setCell, World.size_drew] at hclx hfrx hltx hsz); (try (have hszl := Nat.lt_of_succ_le hsz)); obtain ⟨hcl, hfr, hlt⟩ := h2) | (obtain ⟨hcl, hfr, hlt, hsz⟩ := after_call hb; (try simp only [World.size_alloc, World.size_setCell, World.size_drew] at hcl hfr hlt hsz)))
      go_ret
      exact ⟨rfl, by (repeat' (first | (with_reducible exact Below.refl _ _) | (with_reducible refine Below.alloc ?_ ?_ _) | (with_reducible refine Below.setCell ?_ ?_ _) | (with_reducible refine Below.drew ?_) | (with_reducible refine below_drewN ?_ _) | (with_reducible assumption) | (with_reducible refine below_after (by with_reducible assumption) ?_) | go_size))⟩
    clear hN hc e1 e2 h
    go_enter Tryd.func14, Tryd.ntmps14
    go_wp2_with (go_at_call 28; refine (HP.out).mono ?_; rintro e wn ⟨rfl, hb⟩; first | (have h2 := after_call2 hb hcl hfr hlt (by ((repeat' (first | (with_reducible exact Below.refl _ _) | (with_reducible refine Below.alloc ?_ ?_ _) | (with_reducible refine Below.setCell ?_ ?_ _) | (with_reducible refine Below.drew ?_) | (with_reducible refine below_drewN ?_ _) | (with_reducible assumption) | (with_reducible refine below_after (by with_reducible assumption) ?_) | go_size)); done)); obtain ⟨hclx, hfrx, hltx, hsz⟩ := after_call hb; (try simp only [World.size_alloc, World.size_setCell, World.size_drew] at hclx hfrx hltx hsz); (try (have hszl := Nat.lt_of_succ_le hsz)); obtain ⟨hcl, hfr, hlt⟩ := h2) | (obtain ⟨hcl, hfr, hlt, hsz⟩ := after_call hb; (try simp only [World.size_alloc, World.size_setCell, World.size_drew] at hcl hfr hlt hsz)))
    go_ret2
    exact ⟨rfl, by (repeat' (first | (with_reducible exact Below.refl _ _) | (with_reducible refine Below.alloc ?_ ?_ _) | (with_reducible refine Below.setCell ?_ ?_ _) | (with_reducible refine Below.drew ?_) | (with_reducible refine below_drewN ?_ _) | (with_reducible assumption) | (with_reducible refine below_after (by with_reducible assumption) ?_) | go_size))⟩
  · rw [h] at HCD
    by_cases hl2 : n ≤ 100
    · have e1 : jnV ps = ⟨(jn ps).toArray⟩ := by unfold jnV; rw [if_pos ⟨h, by rw [hN]; exact hl2⟩]
      have e2 : jnC ps = 0 := by unfold jnC; rw [if_pos h, if_pos (by rw [hN]; exact hl2)]
      rw [e1, e2]
      have i1 : ¬ (100 : Int) < (n : Int) := by omega
      have i2 : (n : Int) ≤ 100 := by omega
      have HP : Hid (Calls Tryd.prog 28 #[.slice (some ⟨g, 0, none⟩) n cp] w fun e w' => e = .returned (.int .i64 0) ∧ Below w.heap.size w w') := by
        show Calls _ _ _ _ _
        go_enter Tryd.func28, Tryd.ntmps28
        go_wp2_with (go_at_call 41; refine (HCD.out).mono ?_; rintro e wn ⟨rfl, hb⟩; first | (have h2 := after_call2 hb hcl hfr hlt (by ((repeat' (first | (with_reducible exact Below.refl _ _) | (with_reducible refine Below.alloc ?_ ?_ _) | (with_reducible refine Below.setCell ?_ ?_ _) | (with_reducible refine Below.drew ?_) | (with_reducible refine below_drewN ?_ _) | (with_reducible assumption) | (with_reducible refine below_after (by with_reducible assumption) ?_) | go_size)); done)); obtain ⟨hclx, hfrx, hltx, hsz⟩ := after_call hb; (try simp only [World.size_alloc, World.size_setCell, World.size_drew] at hclx hfrx hltx hsz); (try (have hszl := Nat.lt_of_succ_le hsz)); obtain ⟨hcl, hfr, hlt⟩ := h2) | (obtain ⟨hcl, hfr, hlt, hsz⟩ := after_call hb; (try simp only [World.size_alloc, World.size_setCell, World.size_drew] at hcl hfr hlt hsz)))
        go_ret
        exact ⟨rfl, by (repeat' (first | (with_reducible exact Below.refl _ _) | (with_reducible refine Below.alloc ?_ ?_ _) | (with_reducible refine Below.setCell ?_ ?_ _) | (with_reducible refine Below.drew ?_) | (with_reducible refine below_drewN ?_ _) | (with_reducible assumption) | (with_reducible refine below_after (by with_reducible assumption) ?_) | go_size))⟩
      have HT : Hid (∀ w', Below w.heap.size w w' → Calls Tryd.prog 29 #[.slice (some ⟨g, 0, none⟩) n cp] w' fun e w2 => e = .returned (.string ⟨(jn ps).toArray⟩) ∧ Below w'.heap.size w' w2) := fun w' hb =>
        l01ListText_some ps g cp n w' hN h1 hl2 h (Nat.lt_of_lt_of_le hg hb.size) (fun i hi => ⟨((bcell hb).1 _ _ hg).trans (hc i hi).1, ((bcell hb).1 _ _ hg).trans (hc i hi).2⟩)
      clear hN hc e1 e2 h
      go_enter Tryd.func14, Tryd.ntmps14
      go_wp2_with (first | (go_at_call 28; refine (HP.out).mono ?_; rintro e wn ⟨rfl, hb⟩; first | (have h2 := after_call2 hb hcl hfr hlt (by ((repeat' (first | (with_reducible exact Below.refl _ _) | (with_reducible refine Below.alloc ?_ ?_ _) | (with_reducible refine Below.setCell ?_ ?_ _) | (with_reducible refine Below.drew ?_) | (with_reducible refine below_drewN ?_ _) | (with_reducible assumption) | (with_reducible refine below_after (by with_reducible assumption) ?_) | go_size)); done)); obtain ⟨hclx, hfrx, hltx, hsz⟩ := after_call hb; (try simp only [World.size_alloc, World.size_setCell, World.size_drew] at hclx hfrx hltx hsz); (try (have hszl := Nat.lt_of_succ_le hsz)); obtain ⟨hcl, hfr, hlt⟩ := h2) | (obtain ⟨hcl, hfr, hlt, hsz⟩ := after_call hb; (try simp only [World.size_alloc, World.size_setCell, World.size_drew] at hcl hfr hlt hsz))) | (go_at_call 29; refine (HT.out _ (by (repeat' (first | (with_reducible exact Below.refl _ _) | (with_reducible refine Below.alloc ?_ ?_ _) | (with_reducible refine Below.setCell ?_ ?_ _) | (with_reducible refine Below.drew ?_) | (with_reducible refine below_drewN ?_ _) | (with_reducible assumption) | (with_reducible refine below_after (by with_reducible assumption) ?_) | go_size)))).mono ?_; rintro e wn ⟨rfl, hb⟩; first | (have h2 := after_call2 hb hcl hfr hlt (by ((repeat' (first | (with_reducible exact Below.refl _ _) | (with_reducible refine Below.alloc ?_ ?_ _) | (with_reducible refine Below.setCell ?_ ?_ _) | (with_reducible refine Below.drew ?_) | (with_reducible refine below_drewN ?_ _) | (with_reducible assumption) | (with_reducible refine below_after (by with_reducible assumption) ?_) | go_size)); done)); obtain ⟨hclx, hfrx, hltx, hsz⟩ := after_call hb; (try simp only [World.size_alloc, World.size_setCell, World.size_drew] at hclx hfrx hltx hsz); (try (have hszl := Nat.lt_of_succ_le hsz)); obtain ⟨hcl, hfr, hlt⟩ := h2) | (obtain ⟨hcl, hfr, hlt, hsz⟩ := after_call hb; (try simp only [World.size_alloc, World.size_setCell, World.size_drew] at hcl hfr hlt hsz))))
      go_ret2
      exact ⟨rfl, by (repeat' (first | (with_reducible exact Below.refl _ _) | (with_reducible refine Below.alloc ?_ ?_ _) | (with_reducible refine Below.setCell ?_ ?_ _) | (with_reducible refine Below.drew ?_) | (with_reducible refine below_drewN ?_ _) | (with_reducible assumption) | (with_reducible refine below_after (by with_reducible assumption) ?_) | go_size))⟩
    · have e1 : jnV ps = ⟨#[]⟩ := by unfold jnV; rw [if_neg (fun hh => hl2 (by rw [← hN]; exact hh.2))]
      have e2 : jnC ps = 2 := by unfold jnC; rw [if_pos h, if_neg (by rw [hN]; exact hl2)]
      rw [e1, e2]
      have i1 : (100 : Int) < (n : Int) := by omega
      have HP : Hid (Calls Tryd.prog 28 #[.slice (some ⟨g, 0, none⟩) n cp] w fun e w' => e = .returned (.int .i64 2) ∧ Below w.heap.size w w') := by
        show Calls _ _ _ _ _
        go_enter Tryd.func28, Tryd.ntmps28
        go_wp2_with (go_at_call 41; refine (HCD.out).mono ?_; rintro e wn ⟨rfl, hb⟩; first | (have h2 := after_call2 hb hcl hfr hlt (by ((repeat' (first | (with_reducible exact Below.refl _ _) | (with_reducible refine Below.alloc ?_ ?_ _) | (with_reducible refine Below.setCell ?_ ?_ _) | (with_reducible refine Below.drew ?_) | (with_reducible refine below_drewN ?_ _) | (with_reducible assumption) | (with_reducible refine below_after (by with_reducible assumption) ?_) | go_size)); done)); obtain ⟨hclx, hfrx, hltx, hsz⟩ := after_call hb; (try simp only [World.size_alloc, World.size_setCell, World.size_drew] at hclx hfrx hltx hsz); (try (have hszl := Nat.lt_of_succ_le hsz)); obtain ⟨hcl, hfr, hlt⟩ := h2) | (obtain ⟨hcl, hfr, hlt, hsz⟩ := after_call hb; (try simp only [World.size_alloc, World.size_setCell, World.size_drew] at hcl hfr hlt hsz)))
        go_ret
        exact ⟨rfl, by (repeat' (first | (with_reducible exact Below.refl _ _) | (with_reducible refine Below.alloc ?_ ?_ _) | (with_reducible refine Below.setCell ?_ ?_ _) | (with_reducible refine Below.drew ?_) | (with_reducible refine below_drewN ?_ _) | (with_reducible assumption) | (with_reducible refine below_after (by with_reducible assumption) ?_) | go_size))⟩
      clear hN hc e1 e2 h
      go_enter Tryd.func14, Tryd.ntmps14
      go_wp2_with (go_at_call 28; refine (HP.out).mono ?_; rintro e wn ⟨rfl, hb⟩; first | (have h2 := after_call2 hb hcl hfr hlt (by ((repeat' (first | (with_reducible exact Below.refl _ _) | (with_reducible refine Below.alloc ?_ ?_ _) | (with_reducible refine Below.setCell ?_ ?_ _) | (with_reducible refine Below.drew ?_) | (with_reducible refine below_drewN ?_ _) | (with_reducible assumption) | (with_reducible refine below_after (by with_reducible assumption) ?_) | go_size)); done)); obtain ⟨hclx, hfrx, hltx, hsz⟩ := after_call hb; (try simp only [World.size_alloc, World.size_setCell, World.size_drew] at hclx hfrx hltx hsz); (try (have hszl := Nat.lt_of_succ_le hsz)); obtain ⟨hcl, hfr, hlt⟩ := h2) | (obtain ⟨hcl, hfr, hlt, hsz⟩ := after_call hb; (try simp only [World.size_alloc, World.size_setCell, World.size_drew] at hcl hfr hlt hsz)))
      go_ret2
      exact ⟨rfl, by (repeat' (first | (with_reducible exact Below.refl _ _) | (with_reducible refine Below.alloc ?_ ?_ _) | (with_reducible refine Below.setCell ?_ ?_ _) | (with_reducible refine Below.drew ?_) | (with_reducible refine below_drewN ?_ _) | (with_reducible assumption) | (with_reducible refine below_after (by with_reducible assumption) ?_) | go_size))⟩
theorem info_str : (Tryd.prog.info? 9).map (fun i => (i.zero, i.size, i.bytes)) = some (some (.string ⟨#[]⟩), 1, 16) := by kernel_rfl
theorem impl_PointsText_none (a : Option Addr) (cp : Nat) (w : World) : Calls Tryd.prog 16 #[.slice a 0 cp] w fun e w' => e = .returned (.tuple #[.string ⟨#[]⟩, .int .i64 0]) ∧ Below w.heap.size w w' := by
  obtain ⟨si0, hi, hz0, hz1, hz2⟩ := info_parts info_str
  have HC : Hid (∀ w, Calls Tryd.prog 30 #[.slice a 0 cp] w fun e w' => e = .returned (.bool true) ∧ w = w') := by
    intro w
    go_enter Tryd.func30, Tryd.ntmps30
    go_wp2
    refine wp_loop_rounds 1 ?_
    rw [rounds_succ]
    go_wp2
    go_ret
    exact ⟨rfl, rfl⟩
  go_enter Tryd.func16, Tryd.ntmps16
  go_wp2_with (first | (go_at_call 30; refine (HC.out _).mono ?_; rintro e wn ⟨rfl, rfl⟩) | (at_make; refine wpList_make_full _ rfl _ _ 53 rfl w.heap.size 9 si0 (.string ⟨#[]⟩) 1 Tryd.underlying53 hi hz0 hz1 .i64 .i64 _ _ 0 rfl rfl rfl rfl (by rw [hz2]; omega) (by unfold maxLen; omega) (Nat.le_refl _) ?_; intro w1 hown hgr))
  have HB : Hid (Below w.heap.size w w1) := (Below.refl _ _).grown hgr (Nat.le_refl _) (fun k hk => by cases hk)
  clear hown hgr
  go_wp2
  refine wp_loop_rounds 1 ?_
  rw [rounds_succ]
  go_wp2_with (go_at_call 31; refine (Tryd.strings_Join_none _ _ _ _).mono ?_; rintro e w2 ⟨rfl, rfl⟩)
  go_ret2
  exact ⟨rfl, HB.out⟩
set_option maxHeartbeats 4000000 in
theorem impl_PointsText_yes (B : Nat) (ps : List (Int × Int)) (g cp n : Nat) (w : World) (hB : B ≤ w.heap.size) (hF : FmtAt B w) (hN : ps.length = n) (h1 : 1 ≤ n) (hl : n ≤ 100) (hp : ps.all isPt = true) (hg : g < w.heap.size) (hc : PtCells w g 0 ps) :
    Calls Tryd.prog 16 #[.slice (some ⟨g, 0, none⟩) n cp] w fun e w' => e = .returned (.tuple #[.string ⟨(jn ps).toArray⟩, .int .i64 0]) ∧ Below w.heap.size w w' := by
  obtain ⟨si0, hi, hz0, hz1, hz2⟩ := info_parts info_str
  have HN := Lib.hid hN
  have HL := Lib.hid hl
  have HP := Lib.hid hp
  have HC := Lib.hid hc
  have HB := Lib.hid hB
  have HF := Lib.hid hF
  have H1 := Lib.hid h1
  have HGW := Lib.hid hg
  have HCD : Hid (Calls Tryd.prog 30 #[.slice (some ⟨g, 0, none⟩) n cp] w fun e w' => e = .returned (.bool true) ∧ Below w.heap.size w w') := by
    have := arePoints_any ps g 0 cp w hg (by omega) hc
    rw [hN, hp] at this
    exact this
  have j1 : ¬ (100 : Int) < (n : Int) := by omega
  have j2 : (n : Int) ≤ 100 := by omega
  obtain ⟨R, hR⟩ : ∃ R, (⟨(jn ps).toArray⟩ : ByteArray) = R := ⟨_, rfl⟩
  rw [hR]
  have HR := Lib.hid hR
  clear hN hp hc hB hF hR hg h1 hl
  go_enter Tryd.func16, Tryd.ntmps16
  go_wp2_with (first | (go_at_call 30; refine (HCD.out).mono ?_; rintro e wA ⟨rfl, hbA⟩) | (at_make; refine wpList_make_full _ rfl _ _ 53 rfl wA.heap.size 9 si0 (.string ⟨#[]⟩) 1 Tryd.underlying53 hi hz0 hz1 .i64 .i64 _ _ n rfl rfl rfl rfl (by rw [hz2]; omega) (by unfold maxLen; omega) (Nat.le_refl _) ?_; intro w1 hown hgr))
  have HO := Lib.hid hown
  have HB1 : Hid (Below w.heap.size w w1) := below_after ((Below.refl _ _).grown hgr (Nat.le_refl _) (fun k hk => by cases hk)) hbA
  have HGS : Hid (w.heap.size ≤ wA.heap.size) := hbA.size
  obtain ⟨q, hq⟩ : ∃ q, q = wA.heap.size := ⟨_, rfl⟩
  have HQ : Hid (w.heap.size ≤ q) := by show w.heap.size ≤ q; rw [hq]; exact HGS.out
  have hLen : Hid ((madeCells (Value.string ⟨#[]⟩).cells (n * 1)).toList.length = n) := by have := hown.1; show _ = n; omega
  rw [← hq] at HO ⊢
  clear hown hgr hq hbA HCD
  go_wp2
  go_loopw [18] (fun i wr => ∃ (k : Nat) (ys : List Value), k ≤ n ∧ i = .int .i64 k ∧ ys.length = n ∧ wr.ownsRow q 9 1 (.slice (some ⟨q, 0, none⟩) n n) n ys ∧ (∀ j, j < k → ys[j]? = some (.string (txP (ps.getD j (0, 0)).1 (ps.getD j (0, 0)).2))) ∧ Below w.heap.size w wr) (fun i _ => n - (intOf i).toNat)
  case atStart => exact ⟨0, _, by omega, rfl, hLen.out, HO.out, fun j hj => by omega, HB1.out⟩
  case round =>
    obtain ⟨k, ys, hk, rfl, hyl, hown, hys, hbel⟩ := hrel
    have HW := Lib.hid hown
    have HY := Lib.hid hys
    have HYL := Lib.hid hyl
    have HBL := Lib.hid hbel
    clear hown hys hyl
    by_cases hlt : k < n
    · obtain ⟨⟨x, y⟩, hxy⟩ : ∃ p, ps.getD k (0, 0) = p := ⟨_, rfl⟩
      obtain ⟨d1, d2⟩ := HC.out k (by rw [HN.out]; exact hlt)
      have hpt := all_at HP.out (k := k) (by rw [HN.out]; exact hlt)
      rw [hxy] at d1 d2 hpt
      rw [Nat.zero_add] at d1 d2
      have e1 := (hbel.cell (p := ⟨g, k * 2, none⟩) HGW.out).trans d1
      have e2 := (hbel.cell (p := ⟨g, k * 2 + 1, none⟩) HGW.out).trans d2
      dsimp only at e1 e2
      obtain ⟨V, hV⟩ : ∃ V, txP x y = V := ⟨_, rfl⟩
      have HPT : Hid (∀ w1, Below w.heap.size w w1 → Calls Tryd.prog 9 #[.agg #[.int .i64 x, .int .i64 y]] w1 fun e w' => e = .returned (.tuple #[.string V, .int .i64 0]) ∧ Below w1.heap.size w1 w') := fun w1 hb => by
        have := impl_PointText_any B x y w1 (Nat.le_trans HB.out hb.size) (FmtAt.on HF.out (hb.mono HB.out))
        rw [show txV x y = txP x y by unfold txV; rw [hpt]; rfl, show txC x y = 0 by unfold txC; rw [hpt]; rfl, hV] at this
        exact this
      have HXY := Lib.hid hxy
      have HV := Lib.hid hV
      have HWR : Hid (∀ W', Below wr.heap.size wr W' → W'.ownsRow q 9 1 (.slice (some ⟨q, 0, none⟩) n n) n ys) := fun W' hB => own_below HW.out hB
      have i0' : (0 : Int) ≤ (k : Int) := by omega
      have i1 : (k : Int) < (n : Int) := by omega
      have hk1 : k < ys.length := by rw [HYL.out]; omega
      have HK1 := Lib.hid hk1
      have HLT := Lib.hid hlt
      clear hxy d1 d2 hbel hk1 hpt hV
      go_wp2_with (go_at_call 9; refine (HPT.out _ (below_after (w := wr) (by (repeat' (first | (with_reducible exact Below.refl _ _) | (with_reducible refine Below.alloc ?_ ?_ _) | (with_reducible refine Below.setCell ?_ ?_ _) | (with_reducible refine Below.drew ?_) | (with_reducible refine below_drewN ?_ _) | (with_reducible assumption) | (with_reducible refine below_after (by with_reducible assumption) ?_) | go_size))) HBL.out)).mono ?_; rintro e wc ⟨rfl, hbc⟩; refine Hid.out ?_)
      refine Lib.hid ?_
      have hrc : Below wr.heap.size wr wc := by (repeat' (first | (with_reducible exact Below.refl _ _) | (with_reducible refine Below.alloc ?_ ?_ _) | (with_reducible refine Below.setCell ?_ ?_ _) | (with_reducible refine Below.drew ?_) | (with_reducible refine below_drewN ?_ _) | (with_reducible assumption) | (with_reducible refine below_after (by with_reducible assumption) ?_) | go_size))
      have hwr := HWR.out wc hrc
      have f1 := World.ownsRow.cellAt hwr k (by have := HK1.out; rw [HYL.out] at this; omega)
      have f3 := World.ownsRow.frozenAt hwr k
      rw [List.getElem?_eq_getElem HK1.out] at f1
      have st1 := World.ownsRow.stored hwr k (.string V)
      have S1 := Lib.hid st1.1
      have HB2 : Hid (Below w.heap.size w (wc.setCell ⟨q, k, none⟩ (.string V))) := (below_after hrc HBL.out).setCell (by show w.heap.size ≤ q; exact HQ.out) _
      clear st1 hwr hrc
      go_wp2
      go_roundw
      case rel =>
        refine ⟨k + 1, _, by have := HLT.out; omega, by go_num, ?_, S1.out, fun j hj => ?_, HB2.out⟩
        · rw [List.length_set]; exact HYL.out
        · by_cases hj0 : j = k
          · subst hj0
            rw [List.getElem?_set_self HK1.out, HXY.out, ← HV.out]
          · rw [List.getElem?_set_ne (by omega)]
            exact HY.out j (by omega)
      case measure => have := HLT.out; simp [intOf]; omega
    · have hkn : k = n := by omega
      have i1 : ¬ (k : Int) < (n : Int) := by omega
      have HJN : Hid (Calls Tryd.prog 31 #[.slice (some ⟨q, 0, none⟩) n n, .string ⟨#[59]⟩] wr fun e w' => e = .returned (.string R) ∧ Below wr.heap.size wr w') := by
        have hxl : (ps.map fun p => txP p.1 p.2).length = n := by rw [List.length_map, HN.out]
        have hmm : (ps.map fun p => txP p.1 p.2).map (·.data.toList) = ps.map txB := by
          rw [List.map_map]
          apply List.map_congr_left
          intro p hp
          show (txP p.1 p.2).data.toList = txB p
          rw [txP_eq]
        have hj : Lib.join ((ps.map fun p => txP p.1 p.2).map (·.data.toList)) (⟨#[59]⟩ : ByteArray).data.toList = jn ps := by rw [hmm]; rfl
        have := Tryd.strings_Join q 0 n (ps.map fun p => txP p.1 p.2) ⟨#[59]⟩ wr (fun j x hx => by
          have hjn : j < n := by have := (List.getElem?_eq_some_iff.1 hx).1; rw [hxl] at this; exact this
          have c := World.ownsRow.cellAt HW.out j (by omega)
          rw [HY.out j (by omega)] at c
          rw [Nat.zero_add, c]
          rw [List.getElem?_map, List.getElem?_eq_getElem (by rw [HN.out]; exact hjn)] at hx
          simp only [Option.map_some, Option.some.injEq] at hx
          rw [← hx]
          simp [List.getD, HN.out, hjn]) (World.ownsRow.lt HW.out q rfl).2 (by rw [hxl]; omega) (by rw [hxl]; exact Nat.le_refl _) (by rw [hj]; have := jn_len ps HP.out; rw [HN.out] at this; have := HL.out; omega)
        rw [hj, hxl, HR.out] at this
        exact this
      clear hbel hk hlt
      go_wp2_with (go_at_call 31; refine (HJN.out).mono ?_; rintro e wc ⟨rfl, hbc⟩)
      go_ret2
      exact ⟨rfl, below_after hbc HBL.out⟩
theorem impl_PointsText_some (B : Nat) (ps : List (Int × Int)) (g cp n : Nat) (w : World) (hB : B ≤ w.heap.size) (hF : FmtAt B w) (hN : ps.length = n) (h1 : 1 ≤ n) (hl : n ≤ 1048576) (hg : g < w.heap.size) (hc : PtCells w g 0 ps) :
    Calls Tryd.prog 16 #[.slice (some ⟨g, 0, none⟩) n cp] w fun e w' => e = .returned (.tuple #[.string (jnV ps), .int .i64 (jnC ps)]) ∧ Below w.heap.size w w' := by
  have HCD : Hid (Calls Tryd.prog 30 #[.slice (some ⟨g, 0, none⟩) n cp] w fun e w' => e = .returned (.bool (ps.all isPt)) ∧ Below w.heap.size w w') := by
    have := arePoints_any ps g 0 cp w hg (by omega) hc
    rw [hN] at this
    exact this
  have hi : (n : Int) ≤ 1048576 := by omega
  cases h : ps.all isPt
  · have e1 : jnV ps = ⟨#[]⟩ := by unfold jnV; rw [h]; simp
    have e2 : jnC ps = 1 := by unfold jnC; rw [h]; rfl
    rw [e1, e2]
    rw [h] at HCD
    clear hN hc e1 e2 h hF
    go_enter Tryd.func16, Tryd.ntmps16
    go_wp2_with (go_at_call 30; refine (HCD.out).mono ?_; rintro e wn ⟨rfl, hb⟩; first | (have h2 := after_call2 hb hcl hfr hlt (by ((repeat' (first | (with_reducible exact Below.refl _ _) | (with_reducible refine Below.alloc ?_ ?_ _) | (with_reducible refine Below.setCell ?_ ?_ _) | (with_reducible refine Below.drew ?_) | (with_reducible refine below_drewN ?_ _) | (with_reducible assumption) | (with_reducible refine below_after (by with_reducible assumption) ?_) | go_size)); done)); obtain ⟨hclx, hfrx, hltx, hsz⟩ := after_call hb; (try simp only [World.size_alloc, World.size_setCell, World.size_drew] at hclx hfrx hltx hsz); (try (have hszl := Nat.lt_of_succ_le hsz)); obtain ⟨hcl, hfr, hlt⟩ := h2) | (obtain ⟨hcl, hfr, hlt, hsz⟩ := after_call hb; (try simp only [World.size_alloc, World.size_setCell, World.size_drew] at hcl hfr hlt hsz)))
    go_ret2
    exact ⟨rfl, by (repeat' (first | (with_reducible exact Below.refl _ _) | (with_reducible refine Below.alloc ?_ ?_ _) | (with_reducible refine Below.setCell ?_ ?_ _) | (with_reducible refine Below.drew ?_) | (with_reducible refine below_drewN ?_ _) | (with_reducible assumption) | (with_reducible refine below_after (by with_reducible assumption) ?_) | go_size))⟩
  · by_cases hl2 : n ≤ 100
    · have e1 : jnV ps = ⟨(jn ps).toArray⟩ := by unfold jnV; rw [if_pos ⟨h, by rw [hN]; exact hl2⟩]
      have e2 : jnC ps = 0 := by unfold jnC; rw [if_pos h, if_pos (by rw [hN]; exact hl2)]
      rw [e1, e2]
      exact impl_PointsText_yes B ps g cp n w hB hF hN h1 hl2 h hg hc
    · have e1 : jnV ps = ⟨#[]⟩ := by unfold jnV; rw [if_neg (fun hh => hl2 (by rw [← hN]; exact hh.2))]
      have e2 : jnC ps = 2 := by unfold jnC; rw [if_pos h, if_neg (by rw [hN]; exact hl2)]
      rw [e1, e2]
      have i1 : (100 : Int) < (n : Int) := by omega
      rw [h] at HCD
      clear hN hc e1 e2 h hF
      go_enter Tryd.func16, Tryd.ntmps16
      go_wp2_with (go_at_call 30; refine (HCD.out).mono ?_; rintro e wn ⟨rfl, hb⟩; first | (have h2 := after_call2 hb hcl hfr hlt (by ((repeat' (first | (with_reducible exact Below.refl _ _) | (with_reducible refine Below.alloc ?_ ?_ _) | (with_reducible refine Below.setCell ?_ ?_ _) | (with_reducible refine Below.drew ?_) | (with_reducible refine below_drewN ?_ _) | (with_reducible assumption) | (with_reducible refine below_after (by with_reducible assumption) ?_) | go_size)); done)); obtain ⟨hclx, hfrx, hltx, hsz⟩ := after_call hb; (try simp only [World.size_alloc, World.size_setCell, World.size_drew] at hclx hfrx hltx hsz); (try (have hszl := Nat.lt_of_succ_le hsz)); obtain ⟨hcl, hfr, hlt⟩ := h2) | (obtain ⟨hcl, hfr, hlt, hsz⟩ := after_call hb; (try simp only [World.size_alloc, World.size_setCell, World.size_drew] at hcl hfr hlt hsz)))
      go_ret2
      exact ⟨rfl, by (repeat' (first | (with_reducible exact Below.refl _ _) | (with_reducible refine Below.alloc ?_ ?_ _) | (with_reducible refine Below.setCell ?_ ?_ _) | (with_reducible refine Below.drew ?_) | (with_reducible refine below_drewN ?_ _) | (with_reducible assumption) | (with_reducible refine below_after (by with_reducible assumption) ?_) | go_size))⟩
end Go.Proofs.YtfpmphnjjkionaaDoor
