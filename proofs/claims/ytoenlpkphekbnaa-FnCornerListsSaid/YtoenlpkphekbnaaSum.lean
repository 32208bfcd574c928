/-
  Chapter 2's SumOfCorners as plain numbers, and the model's code of two corners (own work).
-/
import Derived.Test.YtoenlpkphekbnaaCat
import Derived.Test.YtoenlpkphekbnaaEoc
import Derived.Test.YtoenlpkphekbnaaCoe2
import Derived.Test.YtoenlpkphekbnaaCvM
namespace Go.Proofs.Ytoenlpkphekbnaa
open Go.ChangeShapes Go.WideShapes Go.ChangeAt Go.RowKit
set_option linter.unusedVariables false
set_option maxRecDepth 100000
set_option linter.unusedSimpArgs false

/-- The list of a sum, its code, its cosine and sine. -/
def smL (a b c d e f g h n : Int) : List Int := lnC a b c d ++ [n] ++ lnC e f g h
def smB (a b c d e f g h n : Int) : Int := if 60 < (smL a b c d e f g h n).length then 3 else colC (smL a b c d e f g h n)
def smC (a b c d e f g h n : Int) : Int :=
  if isCr a b c d = true ∧ isCr e f g h = true then (if crd n = true then (if fitC a b c d = true ∧ fitC e f g h = true then smB a b c d e f g h n else 3) else 2) else 1
def smX (a b c d e f g h n : Int) : Int := cosI 1 0 (ff (smL a b c d e f g h n)).2 (ff (smL a b c d e f g h n)).1
def smY (a b c d e f g h n : Int) : Int := sinI 1 0 (ff (smL a b c d e f g h n)).2 (ff (smL a b c d e f g h n)).1
theorem smC_1a {a b c d e f g h n : Int} (k : isCr a b c d = false) : smC a b c d e f g h n = 1 := by unfold smC; simp [k]
theorem smC_1b {a b c d e f g h n : Int} (k : isCr e f g h = false) : smC a b c d e f g h n = 1 := by unfold smC; simp [k]
theorem smC_2 {a b c d e f g h n : Int} (k : isCr a b c d = true) (k2 : isCr e f g h = true) (l : crd n = false) : smC a b c d e f g h n = 2 := by unfold smC; simp [k, k2, l]
theorem smC_3a {a b c d e f g h n : Int} (k : isCr a b c d = true) (k2 : isCr e f g h = true) (l : crd n = true) (m : fitC a b c d = false) : smC a b c d e f g h n = 3 := by unfold smC; simp [k, k2, l, m]
theorem smC_3b {a b c d e f g h n : Int} (k : isCr a b c d = true) (k2 : isCr e f g h = true) (l : crd n = true) (m : fitC e f g h = false) : smC a b c d e f g h n = 3 := by unfold smC; simp [k, k2, l, m]
theorem smC_b {a b c d e f g h n : Int} (k : isCr a b c d = true) (k2 : isCr e f g h = true) (l : crd n = true) (m : fitC a b c d = true) (m2 : fitC e f g h = true) : smC a b c d e f g h n = smB a b c d e f g h n := by unfold smC; simp [k, k2, l, m, m2]

theorem lng_el (s c : Int) (hs1 : 1 ≤ s) (hs2 : s ≤ 1000000) (hc1 : 1 ≤ c) (hc2 : c ≤ 1000000) (k : Nat) : crd ((lng (expI s c))[k]?.getD 0) = true := by
  have hne := expI_ne (p := s) hc1
  have hel := fun k hk => exp_el k s c hc1 hc2 (by omega) hs2 hk
  unfold lng
  split
  · by_cases hk : k < (expI s c).length
    · have := hel k hk
      simp only [List.getD] at this
      exact crd_iff.2 ⟨this.1, this.2.1⟩
    · rw [List.getElem?_eq_none (by omega)]; rfl
  · rename_i hodd
    by_cases hk : k < (expI s c).length - 1
    · have := hel k (by omega)
      rw [List.getElem?_append_left (by rw [List.length_dropLast]; exact hk), List.getElem?_dropLast, if_pos hk]
      simp only [List.getD] at this
      exact crd_iff.2 ⟨this.1, this.2.1⟩
    · rw [List.getElem?_append_right (by rw [List.length_dropLast]; omega), List.length_dropLast]
      by_cases h0 : k - ((expI s c).length - 1) = 0
      · rw [h0]
        have := hel ((expI s c).length - 1) (by omega)
        have h1 := this.2.2 (Or.inl (by omega))
        show crd ((expI s c).getD ((expI s c).length - 1) 0 - 1) = true
        exact crd_iff.2 ⟨by omega, by omega⟩
      · by_cases h1 : k - ((expI s c).length - 1) = 1
        · rw [h1]; rfl
        · rw [List.getElem?_eq_none (by simp; omega)]; rfl
theorem lnC_el {a b c d : Int} (h : isCr a b c d = true) (m : fitC a b c d = true) (k : Nat) : crd ((lnC a b c d)[k]?.getD 0) = true := by
  rw [lnC_yes h m]
  have := cos_bd h
  have := fitC_iff.1 m
  exact lng_el _ _ (sin_pos h).1 this (by omega) (by omega) k
theorem lnC_ne {a b c d : Int} (h : isCr a b c d = true) (m : fitC a b c d = true) : 1 ≤ (lnC a b c d).length := by
  rw [lnC_yes h m]
  have := expI_ne (p := sinI a b c d) (cos_bd h).1
  unfold lng
  split
  · omega
  · simp
theorem smL_el {a b c d e f g h n : Int} (k : isCr a b c d = true) (k2 : isCr e f g h = true) (l : crd n = true) (m : fitC a b c d = true) (m2 : fitC e f g h = true) (i : Nat) : crd ((smL a b c d e f g h n)[i]?.getD 0) = true := by
  unfold smL
  by_cases h1 : i < (lnC a b c d ++ [n]).length
  · rw [List.getElem?_append_left h1]
    by_cases h2 : i < (lnC a b c d).length
    · rw [List.getElem?_append_left h2]; exact lnC_el k m i
    · rw [List.getElem?_append_right (by omega)]
      have : i - (lnC a b c d).length = 0 := by simp only [List.length_append, List.length_cons, List.length_nil] at h1; omega
      rw [this]; exact l
  · rw [List.getElem?_append_right (by omega)]; exact lnC_el k2 m2 _
theorem gcdI_ff : ∀ xs : List Int, gcdI (ff xs).2 (ff xs).1 = 1
  | [] => rfl
  | x :: xs => by
    have ih := gcdI_ff xs
    unfold gcdI at ih ⊢
    show ((Int.gcd (ff xs).1 (x * (ff xs).1 + (ff xs).2) : Nat) : Int) = 1
    rw [← ih, Int.gcd_comm (ff xs).2 (ff xs).1]
    have : Int.gcd (ff xs).1 (x * (ff xs).1 + (ff xs).2) = Int.gcd (ff xs).1 (ff xs).2 := by
      rw [Int.add_comm]
      simp
    rw [this]
theorem isCr_ff {xs : List Int} (h : okF xs = true) (k : ¬ (ff xs).1 = 0) : isCr 1 0 (ff xs).2 (ff xs).1 = true := by
  have hp := okF_pt0 h
  have h1 := isPt_c1 hp
  have h2 := isPt_c2 hp
  have hq : isPt ((ff xs).2, (ff xs).1) = true := by
    unfold isPt
    rw [Bool.and_eq_true]
    exact ⟨crd_iff.2 h2, crd_iff.2 h1⟩
  unfold isCr isPr
  rw [hq, gcdI_ff xs]
  have : detP (1, 0) ((ff xs).2, (ff xs).1) = (ff xs).1 := by unfold detP; simp
  rw [this]
  have g1 : gcdI 1 0 = 1 := rfl
  have p1 : isPt (1, 0) = true := rfl
  simp [g1, p1, k]
theorem fitC_ff {xs : List Int} (h : okF xs = true) : fitC 1 0 (ff xs).2 (ff xs).1 = true := by
  have h1 := isPt_c1 (okF_pt0 h)
  apply fitC_iff.2
  have : detP (1, 0) ((ff xs).2, (ff xs).1) = (ff xs).1 := by unfold detP; simp
  unfold sinI
  rw [this]
  unfold absI
  omega
set_option maxHeartbeats 1600000 in
theorem l02Code2_any (a b c d e f g h : Int) (p cap : Nat) (w : World) (hp : p < w.heap.size) (c0 : w.cell? ⟨p, 0, none⟩ = some (.int .i64 a)) (c1 : w.cell? ⟨p, 1, none⟩ = some (.int .i64 b)) (c2 : w.cell? ⟨p, 2, none⟩ = some (.int .i64 c)) (c3 : w.cell? ⟨p, 3, none⟩ = some (.int .i64 d))
    (c4 : w.cell? ⟨p, 4, none⟩ = some (.int .i64 e)) (c5 : w.cell? ⟨p, 5, none⟩ = some (.int .i64 f)) (c6 : w.cell? ⟨p, 6, none⟩ = some (.int .i64 g)) (c7 : w.cell? ⟨p, 7, none⟩ = some (.int .i64 h)) :
    Calls Try.prog 114 #[.slice (some ⟨p, 0, none⟩) 2 cap] w fun en w' => en = .returned (.int .i64 (if isCr a b c d = true ∧ isCr e f g h = true then (if fitC a b c d = true ∧ fitC e f g h = true then 0 else 3) else 1)) ∧ Below w.heap.size w w' := by
  cases h1 : isCr a b c d
  · have hv : (if (false = true ∧ isCr e f g h = true) then (if fitC a b c d = true ∧ fitC e f g h = true then (0 : Int) else 3) else 1) = 1 := by simp
    rw [hv]
    go_enter Try.func114, Try.ntmps114
    go_wp2
    refine wp_loop_rounds 4 ?_
    rw [rounds_succ]
    go_wp2_with (first | (go_at_call 112; refine (l02Is_any _ _ _ _ _).mono ?_; rintro e wn ⟨rfl, hb⟩; first | (have h2 := after_call2 hb hcl hfr hlt (by ((repeat' (first | (with_reducible exact Below.refl _ _) | (with_reducible refine Below.alloc ?_ ?_ _) | (with_reducible refine Below.setCell ?_ ?_ _) | (with_reducible refine Below.drew ?_) | (with_reducible refine below_drewN ?_ _) | (with_reducible assumption) | (with_reducible refine below_after (by with_reducible assumption) ?_) | go_size)); done)); obtain ⟨hclx, hfrx, hltx, hsz⟩ := after_call hb; (try simp only [World.size_alloc, World.size_setCell, World.size_drew] at hclx hfrx hltx hsz); (try (have hszl := Nat.lt_of_succ_le hsz)); obtain ⟨hcl, hfr, hlt⟩ := h2) | (obtain ⟨hcl, hfr, hlt, hsz⟩ := after_call hb; (try simp only [World.size_alloc, World.size_setCell, World.size_drew] at hcl hfr hlt hsz))))
    go_ret
    exact ⟨rfl, by (repeat' (first | (with_reducible exact Below.refl _ _) | (with_reducible refine Below.alloc ?_ ?_ _) | (with_reducible refine Below.setCell ?_ ?_ _) | (with_reducible refine Below.drew ?_) | (with_reducible refine below_drewN ?_ _) | (with_reducible assumption) | (with_reducible refine below_after (by with_reducible assumption) ?_) | go_size))⟩
  cases h2 : isCr e f g h
  · have hv : (if (true = true ∧ false = true) then (if fitC a b c d = true ∧ fitC e f g h = true then (0 : Int) else 3) else 1) = 1 := by simp
    rw [hv]
    go_enter Try.func114, Try.ntmps114
    go_wp2
    refine wp_loop_rounds 4 ?_
    rw [rounds_succ]
    go_wp2_with (first | (go_at_call 112; refine (l02Is_any _ _ _ _ _).mono ?_; rintro e wn ⟨rfl, hb⟩; first | (have h2 := after_call2 hb hcl hfr hlt (by ((repeat' (first | (with_reducible exact Below.refl _ _) | (with_reducible refine Below.alloc ?_ ?_ _) | (with_reducible refine Below.setCell ?_ ?_ _) | (with_reducible refine Below.drew ?_) | (with_reducible refine below_drewN ?_ _) | (with_reducible assumption) | (with_reducible refine below_after (by with_reducible assumption) ?_) | go_size)); done)); obtain ⟨hclx, hfrx, hltx, hsz⟩ := after_call hb; (try simp only [World.size_alloc, World.size_setCell, World.size_drew] at hclx hfrx hltx hsz); (try (have hszl := Nat.lt_of_succ_le hsz)); obtain ⟨hcl, hfr, hlt⟩ := h2) | (obtain ⟨hcl, hfr, hlt, hsz⟩ := after_call hb; (try simp only [World.size_alloc, World.size_setCell, World.size_drew] at hcl hfr hlt hsz))))
    rw [rounds_succ]
    go_wp2_with (first | (go_at_call 112; refine (l02Is_any _ _ _ _ _).mono ?_; rintro e wn ⟨rfl, hb⟩; first | (have h2 := after_call2 hb hcl hfr hlt (by ((repeat' (first | (with_reducible exact Below.refl _ _) | (with_reducible refine Below.alloc ?_ ?_ _) | (with_reducible refine Below.setCell ?_ ?_ _) | (with_reducible refine Below.drew ?_) | (with_reducible refine below_drewN ?_ _) | (with_reducible assumption) | (with_reducible refine below_after (by with_reducible assumption) ?_) | go_size)); done)); obtain ⟨hclx, hfrx, hltx, hsz⟩ := after_call hb; (try simp only [World.size_alloc, World.size_setCell, World.size_drew] at hclx hfrx hltx hsz); (try (have hszl := Nat.lt_of_succ_le hsz)); obtain ⟨hcl, hfr, hlt⟩ := h2) | (obtain ⟨hcl, hfr, hlt, hsz⟩ := after_call hb; (try simp only [World.size_alloc, World.size_setCell, World.size_drew] at hcl hfr hlt hsz))))
    go_ret
    exact ⟨rfl, by (repeat' (first | (with_reducible exact Below.refl _ _) | (with_reducible refine Below.alloc ?_ ?_ _) | (with_reducible refine Below.setCell ?_ ?_ _) | (with_reducible refine Below.drew ?_) | (with_reducible refine below_drewN ?_ _) | (with_reducible assumption) | (with_reducible refine below_after (by with_reducible assumption) ?_) | go_size))⟩
  obtain ⟨k0, k1, _⟩ := isCr_parts h1
  obtain ⟨k2, k3, _⟩ := isCr_parts h2
  have H0 := Lib.hid k0
  have H1 := Lib.hid k1
  have H2 := Lib.hid k2
  have H3 := Lib.hid k3
  clear k0 k1 k2 k3
  cases hk : fitC a b c d
  · have hv : (if (true = true ∧ true = true) then (if false = true ∧ fitC e f g h = true then (0 : Int) else 3) else 1) = 3 := by simp
    rw [hv]
    have hk1 := fitC_not.1 hk
    clear hk
    go_enter Try.func114, Try.ntmps114
    go_wp2
    refine wp_loop_rounds 4 ?_
    rw [rounds_succ]
    go_wp2_with (first | (go_at_call 112; refine (l02Is_any _ _ _ _ _).mono ?_; rintro e wn ⟨rfl, hb⟩; first | (have h2 := after_call2 hb hcl hfr hlt (by ((repeat' (first | (with_reducible exact Below.refl _ _) | (with_reducible refine Below.alloc ?_ ?_ _) | (with_reducible refine Below.setCell ?_ ?_ _) | (with_reducible refine Below.drew ?_) | (with_reducible refine below_drewN ?_ _) | (with_reducible assumption) | (with_reducible refine below_after (by with_reducible assumption) ?_) | go_size)); done)); obtain ⟨hclx, hfrx, hltx, hsz⟩ := after_call hb; (try simp only [World.size_alloc, World.size_setCell, World.size_drew] at hclx hfrx hltx hsz); (try (have hszl := Nat.lt_of_succ_le hsz)); obtain ⟨hcl, hfr, hlt⟩ := h2) | (obtain ⟨hcl, hfr, hlt, hsz⟩ := after_call hb; (try simp only [World.size_alloc, World.size_setCell, World.size_drew] at hcl hfr hlt hsz))))
    rw [rounds_succ]
    go_wp2_with (first | (go_at_call 112; refine (l02Is_any _ _ _ _ _).mono ?_; rintro e wn ⟨rfl, hb⟩; first | (have h2 := after_call2 hb hcl hfr hlt (by ((repeat' (first | (with_reducible exact Below.refl _ _) | (with_reducible refine Below.alloc ?_ ?_ _) | (with_reducible refine Below.setCell ?_ ?_ _) | (with_reducible refine Below.drew ?_) | (with_reducible refine below_drewN ?_ _) | (with_reducible assumption) | (with_reducible refine below_after (by with_reducible assumption) ?_) | go_size)); done)); obtain ⟨hclx, hfrx, hltx, hsz⟩ := after_call hb; (try simp only [World.size_alloc, World.size_setCell, World.size_drew] at hclx hfrx hltx hsz); (try (have hszl := Nat.lt_of_succ_le hsz)); obtain ⟨hcl, hfr, hlt⟩ := h2) | (obtain ⟨hcl, hfr, hlt, hsz⟩ := after_call hb; (try simp only [World.size_alloc, World.size_setCell, World.size_drew] at hcl hfr hlt hsz))))
    rw [rounds_succ]
    go_wp2
    refine wp_loop_rounds 4 ?_
    rw [rounds_succ]
    go_wp2_with (first | (go_at_call 116; refine (l02Sine_any _ _ _ _ _ H0.out H1.out).mono ?_; rintro e wn ⟨rfl, hb⟩; first | (have h2 := after_call2 hb hcl hfr hlt (by ((repeat' (first | (with_reducible exact Below.refl _ _) | (with_reducible refine Below.alloc ?_ ?_ _) | (with_reducible refine Below.setCell ?_ ?_ _) | (with_reducible refine Below.drew ?_) | (with_reducible refine below_drewN ?_ _) | (with_reducible assumption) | (with_reducible refine below_after (by with_reducible assumption) ?_) | go_size)); done)); obtain ⟨hclx, hfrx, hltx, hsz⟩ := after_call hb; (try simp only [World.size_alloc, World.size_setCell, World.size_drew] at hclx hfrx hltx hsz); (try (have hszl := Nat.lt_of_succ_le hsz)); obtain ⟨hcl, hfr, hlt⟩ := h2) | (obtain ⟨hcl, hfr, hlt, hsz⟩ := after_call hb; (try simp only [World.size_alloc, World.size_setCell, World.size_drew] at hcl hfr hlt hsz))))
    go_ret
    exact ⟨rfl, by (repeat' (first | (with_reducible exact Below.refl _ _) | (with_reducible refine Below.alloc ?_ ?_ _) | (with_reducible refine Below.setCell ?_ ?_ _) | (with_reducible refine Below.drew ?_) | (with_reducible refine below_drewN ?_ _) | (with_reducible assumption) | (with_reducible refine below_after (by with_reducible assumption) ?_) | go_size))⟩
  have hk1 := fitC_iff.1 hk
  clear hk
  cases hk : fitC e f g h
  · have hv : (if (true = true ∧ true = true) then (if true = true ∧ false = true then (0 : Int) else 3) else 1) = 3 := by simp
    rw [hv]
    have hk2 := fitC_not.1 hk
    clear hk
    go_enter Try.func114, Try.ntmps114
    go_wp2
    refine wp_loop_rounds 4 ?_
    rw [rounds_succ]
    go_wp2_with (first | (go_at_call 112; refine (l02Is_any _ _ _ _ _).mono ?_; rintro e wn ⟨rfl, hb⟩; first | (have h2 := after_call2 hb hcl hfr hlt (by ((repeat' (first | (with_reducible exact Below.refl _ _) | (with_reducible refine Below.alloc ?_ ?_ _) | (with_reducible refine Below.setCell ?_ ?_ _) | (with_reducible refine Below.drew ?_) | (with_reducible refine below_drewN ?_ _) | (with_reducible assumption) | (with_reducible refine below_after (by with_reducible assumption) ?_) | go_size)); done)); obtain ⟨hclx, hfrx, hltx, hsz⟩ := after_call hb; (try simp only [World.size_alloc, World.size_setCell, World.size_drew] at hclx hfrx hltx hsz); (try (have hszl := Nat.lt_of_succ_le hsz)); obtain ⟨hcl, hfr, hlt⟩ := h2) | (obtain ⟨hcl, hfr, hlt, hsz⟩ := after_call hb; (try simp only [World.size_alloc, World.size_setCell, World.size_drew] at hcl hfr hlt hsz))))
    rw [rounds_succ]
    go_wp2_with (first | (go_at_call 112; refine (l02Is_any _ _ _ _ _).mono ?_; rintro e wn ⟨rfl, hb⟩; first | (have h2 := after_call2 hb hcl hfr hlt (by ((repeat' (first | (with_reducible exact Below.refl _ _) | (with_reducible refine Below.alloc ?_ ?_ _) | (with_reducible refine Below.setCell ?_ ?_ _) | (with_reducible refine Below.drew ?_) | (with_reducible refine below_drewN ?_ _) | (with_reducible assumption) | (with_reducible refine below_after (by with_reducible assumption) ?_) | go_size)); done)); obtain ⟨hclx, hfrx, hltx, hsz⟩ := after_call hb; (try simp only [World.size_alloc, World.size_setCell, World.size_drew] at hclx hfrx hltx hsz); (try (have hszl := Nat.lt_of_succ_le hsz)); obtain ⟨hcl, hfr, hlt⟩ := h2) | (obtain ⟨hcl, hfr, hlt, hsz⟩ := after_call hb; (try simp only [World.size_alloc, World.size_setCell, World.size_drew] at hcl hfr hlt hsz))))
    rw [rounds_succ]
    go_wp2
    refine wp_loop_rounds 4 ?_
    rw [rounds_succ]
    go_wp2_with (first | (go_at_call 116; refine (l02Sine_any _ _ _ _ _ H0.out H1.out).mono ?_; rintro e wn ⟨rfl, hb⟩; first | (have h2 := after_call2 hb hcl hfr hlt (by ((repeat' (first | (with_reducible exact Below.refl _ _) | (with_reducible refine Below.alloc ?_ ?_ _) | (with_reducible refine Below.setCell ?_ ?_ _) | (with_reducible refine Below.drew ?_) | (with_reducible refine below_drewN ?_ _) | (with_reducible assumption) | (with_reducible refine below_after (by with_reducible assumption) ?_) | go_size)); done)); obtain ⟨hclx, hfrx, hltx, hsz⟩ := after_call hb; (try simp only [World.size_alloc, World.size_setCell, World.size_drew] at hclx hfrx hltx hsz); (try (have hszl := Nat.lt_of_succ_le hsz)); obtain ⟨hcl, hfr, hlt⟩ := h2) | (obtain ⟨hcl, hfr, hlt, hsz⟩ := after_call hb; (try simp only [World.size_alloc, World.size_setCell, World.size_drew] at hcl hfr hlt hsz))))
    rw [rounds_succ]
    go_wp2_with (first | (go_at_call 116; refine (l02Sine_any _ _ _ _ _ H2.out H3.out).mono ?_; rintro e wn ⟨rfl, hb⟩; first | (have h2 := after_call2 hb hcl hfr hlt (by ((repeat' (first | (with_reducible exact Below.refl _ _) | (with_reducible refine Below.alloc ?_ ?_ _) | (with_reducible refine Below.setCell ?_ ?_ _) | (with_reducible refine Below.drew ?_) | (with_reducible refine below_drewN ?_ _) | (with_reducible assumption) | (with_reducible refine below_after (by with_reducible assumption) ?_) | go_size)); done)); obtain ⟨hclx, hfrx, hltx, hsz⟩ := after_call hb; (try simp only [World.size_alloc, World.size_setCell, World.size_drew] at hclx hfrx hltx hsz); (try (have hszl := Nat.lt_of_succ_le hsz)); obtain ⟨hcl, hfr, hlt⟩ := h2) | (obtain ⟨hcl, hfr, hlt, hsz⟩ := after_call hb; (try simp only [World.size_alloc, World.size_setCell, World.size_drew] at hcl hfr hlt hsz))))
    go_ret
    exact ⟨rfl, by (repeat' (first | (with_reducible exact Below.refl _ _) | (with_reducible refine Below.alloc ?_ ?_ _) | (with_reducible refine Below.setCell ?_ ?_ _) | (with_reducible refine Below.drew ?_) | (with_reducible refine below_drewN ?_ _) | (with_reducible assumption) | (with_reducible refine below_after (by with_reducible assumption) ?_) | go_size))⟩
  · have hv : (if (true = true ∧ true = true) then (if true = true ∧ true = true then (0 : Int) else 3) else 1) = 0 := by simp
    rw [hv]
    have hk2 := fitC_iff.1 hk
    clear hk
    go_enter Try.func114, Try.ntmps114
    go_wp2
    refine wp_loop_rounds 4 ?_
    rw [rounds_succ]
    go_wp2_with (first | (go_at_call 112; refine (l02Is_any _ _ _ _ _).mono ?_; rintro e wn ⟨rfl, hb⟩; first | (have h2 := after_call2 hb hcl hfr hlt (by ((repeat' (first | (with_reducible exact Below.refl _ _) | (with_reducible refine Below.alloc ?_ ?_ _) | (with_reducible refine Below.setCell ?_ ?_ _) | (with_reducible refine Below.drew ?_) | (with_reducible refine below_drewN ?_ _) | (with_reducible assumption) | (with_reducible refine below_after (by with_reducible assumption) ?_) | go_size)); done)); obtain ⟨hclx, hfrx, hltx, hsz⟩ := after_call hb; (try simp only [World.size_alloc, World.size_setCell, World.size_drew] at hclx hfrx hltx hsz); (try (have hszl := Nat.lt_of_succ_le hsz)); obtain ⟨hcl, hfr, hlt⟩ := h2) | (obtain ⟨hcl, hfr, hlt, hsz⟩ := after_call hb; (try simp only [World.size_alloc, World.size_setCell, World.size_drew] at hcl hfr hlt hsz))))
    rw [rounds_succ]
    go_wp2_with (first | (go_at_call 112; refine (l02Is_any _ _ _ _ _).mono ?_; rintro e wn ⟨rfl, hb⟩; first | (have h2 := after_call2 hb hcl hfr hlt (by ((repeat' (first | (with_reducible exact Below.refl _ _) | (with_reducible refine Below.alloc ?_ ?_ _) | (with_reducible refine Below.setCell ?_ ?_ _) | (with_reducible refine Below.drew ?_) | (with_reducible refine below_drewN ?_ _) | (with_reducible assumption) | (with_reducible refine below_after (by with_reducible assumption) ?_) | go_size)); done)); obtain ⟨hclx, hfrx, hltx, hsz⟩ := after_call hb; (try simp only [World.size_alloc, World.size_setCell, World.size_drew] at hclx hfrx hltx hsz); (try (have hszl := Nat.lt_of_succ_le hsz)); obtain ⟨hcl, hfr, hlt⟩ := h2) | (obtain ⟨hcl, hfr, hlt, hsz⟩ := after_call hb; (try simp only [World.size_alloc, World.size_setCell, World.size_drew] at hcl hfr hlt hsz))))
    rw [rounds_succ]
    go_wp2
    refine wp_loop_rounds 4 ?_
    rw [rounds_succ]
    go_wp2_with (first | (go_at_call 116; refine (l02Sine_any _ _ _ _ _ H0.out H1.out).mono ?_; rintro e wn ⟨rfl, hb⟩; first | (have h2 := after_call2 hb hcl hfr hlt (by ((repeat' (first | (with_reducible exact Below.refl _ _) | (with_reducible refine Below.alloc ?_ ?_ _) | (with_reducible refine Below.setCell ?_ ?_ _) | (with_reducible refine Below.drew ?_) | (with_reducible refine below_drewN ?_ _) | (with_reducible assumption) | (with_reducible refine below_after (by with_reducible assumption) ?_) | go_size)); done)); obtain ⟨hclx, hfrx, hltx, hsz⟩ := after_call hb; (try simp only [World.size_alloc, World.size_setCell, World.size_drew] at hclx hfrx hltx hsz); (try (have hszl := Nat.lt_of_succ_le hsz)); obtain ⟨hcl, hfr, hlt⟩ := h2) | (obtain ⟨hcl, hfr, hlt, hsz⟩ := after_call hb; (try simp only [World.size_alloc, World.size_setCell, World.size_drew] at hcl hfr hlt hsz))))
    rw [rounds_succ]
    go_wp2_with (first | (go_at_call 116; refine (l02Sine_any _ _ _ _ _ H2.out H3.out).mono ?_; rintro e wn ⟨rfl, hb⟩; first | (have h2 := after_call2 hb hcl hfr hlt (by ((repeat' (first | (with_reducible exact Below.refl _ _) | (with_reducible refine Below.alloc ?_ ?_ _) | (with_reducible refine Below.setCell ?_ ?_ _) | (with_reducible refine Below.drew ?_) | (with_reducible refine below_drewN ?_ _) | (with_reducible assumption) | (with_reducible refine below_after (by with_reducible assumption) ?_) | go_size)); done)); obtain ⟨hclx, hfrx, hltx, hsz⟩ := after_call hb; (try simp only [World.size_alloc, World.size_setCell, World.size_drew] at hclx hfrx hltx hsz); (try (have hszl := Nat.lt_of_succ_le hsz)); obtain ⟨hcl, hfr, hlt⟩ := h2) | (obtain ⟨hcl, hfr, hlt, hsz⟩ := after_call hb; (try simp only [World.size_alloc, World.size_setCell, World.size_drew] at hcl hfr hlt hsz))))
    rw [rounds_succ]
    go_wp2
    go_ret
    exact ⟨rfl, by (repeat' (first | (with_reducible exact Below.refl _ _) | (with_reducible refine Below.alloc ?_ ?_ _) | (with_reducible refine Below.setCell ?_ ?_ _) | (with_reducible refine Below.drew ?_) | (with_reducible refine below_drewN ?_ _) | (with_reducible assumption) | (with_reducible refine below_after (by with_reducible assumption) ?_) | go_size))⟩
end Go.Proofs.Ytoenlpkphekbnaa
