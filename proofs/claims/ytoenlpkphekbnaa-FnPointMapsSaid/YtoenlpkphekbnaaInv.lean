/-
  The inverse of a unimodular matrix, in the model and in the program (own work).
-/
import Derived.Test.YtoenlpkphekbnaaMat
import Derived.Test.YtoenlpkphekbnaaAlg2
namespace Go.Proofs.Ytoenlpkphekbnaa
open Go.ChangeShapes Go.WideShapes Go.ChangeAt Go.RowKit
set_option linter.unusedVariables false
set_option maxRecDepth 100000
set_option linter.unusedSimpArgs false

theorem isMx_parts {a b c d : Int} (h : isMx a b c d = true) : isPt (a, b) = true ∧ isPt (c, d) = true := by simpa [isMx] using h
theorem l01DetOf_any (a b c d : Int) (w : World) (h0 : Bn a) (h1 : Bn b) (h2 : Bn c) (h3 : Bn d) :
    Calls Try.prog 133 #[.agg #[.int .i64 a, .int .i64 b, .int .i64 c, .int .i64 d]] w fun e w' => e = .returned (.int .i64 (detP (a, b) (c, d))) ∧ Below w.heap.size w w' := by
  obtain ⟨p1, p2⟩ := mul_bn h0 h3
  obtain ⟨q1, q2⟩ := mul_bn h1 h2
  clear h0 h1 h2 h3
  go_enter Try.func133, Try.ntmps133
  go_wp2
  go_ret
  exact ⟨rfl, by (repeat' (first | (with_reducible exact Below.refl _ _) | (with_reducible refine Below.alloc ?_ ?_ _) | (with_reducible refine Below.setCell ?_ ?_ _) | (with_reducible refine Below.drew ?_) | (with_reducible refine below_drewN ?_ _) | (with_reducible assumption) | (with_reducible refine below_after (by with_reducible assumption) ?_) | go_size))⟩
theorem l01Unit_yes (a b c d : Int) (w : World) (hm : isMx a b c d = true) (hu : detP (a, b) (c, d) = 1 ∨ detP (a, b) (c, d) = -1) :
    Calls Try.prog 76 #[.agg #[.int .i64 a, .int .i64 b, .int .i64 c, .int .i64 d]] w fun e w' => e = .returned (.bool true) ∧ Below w.heap.size w w' := by
  obtain ⟨k0, k1⟩ := isMx_parts hm
  have H0 := Lib.hid k0
  have H1 := Lib.hid k1
  clear k0 k1
  rcases hu with hu | hu
  · go_enter Try.func76, Try.ntmps76
    go_wp2_with (go_at_call 133; refine (l01DetOf_any _ _ _ _ _ (isPt_bn1 H0.out) (isPt_bn2 H0.out) (isPt_bn1 H1.out) (isPt_bn2 H1.out)).mono ?_; rintro e wn ⟨rfl, hb⟩; first | (have h2 := after_call2 hb hcl hfr hlt (by ((repeat' (first | (with_reducible exact Below.refl _ _) | (with_reducible refine Below.alloc ?_ ?_ _) | (with_reducible refine Below.setCell ?_ ?_ _) | (with_reducible refine Below.drew ?_) | (with_reducible refine below_drewN ?_ _) | (with_reducible assumption) | (with_reducible refine below_after (by with_reducible assumption) ?_) | go_size)); done)); obtain ⟨hclx, hfrx, hltx, hsz⟩ := after_call hb; (try simp only [World.size_alloc, World.size_setCell, World.size_drew] at hclx hfrx hltx hsz); (try (have hszl := Nat.lt_of_succ_le hsz)); obtain ⟨hcl, hfr, hlt⟩ := h2) | (obtain ⟨hcl, hfr, hlt, hsz⟩ := after_call hb; (try simp only [World.size_alloc, World.size_setCell, World.size_drew] at hcl hfr hlt hsz)))
    go_ret
    exact ⟨rfl, by (repeat' (first | (with_reducible exact Below.refl _ _) | (with_reducible refine Below.alloc ?_ ?_ _) | (with_reducible refine Below.setCell ?_ ?_ _) | (with_reducible refine Below.drew ?_) | (with_reducible refine below_drewN ?_ _) | (with_reducible assumption) | (with_reducible refine below_after (by with_reducible assumption) ?_) | go_size))⟩
  · go_enter Try.func76, Try.ntmps76
    go_wp2_with (go_at_call 133; refine (l01DetOf_any _ _ _ _ _ (isPt_bn1 H0.out) (isPt_bn2 H0.out) (isPt_bn1 H1.out) (isPt_bn2 H1.out)).mono ?_; rintro e wn ⟨rfl, hb⟩; first | (have h2 := after_call2 hb hcl hfr hlt (by ((repeat' (first | (with_reducible exact Below.refl _ _) | (with_reducible refine Below.alloc ?_ ?_ _) | (with_reducible refine Below.setCell ?_ ?_ _) | (with_reducible refine Below.drew ?_) | (with_reducible refine below_drewN ?_ _) | (with_reducible assumption) | (with_reducible refine below_after (by with_reducible assumption) ?_) | go_size)); done)); obtain ⟨hclx, hfrx, hltx, hsz⟩ := after_call hb; (try simp only [World.size_alloc, World.size_setCell, World.size_drew] at hclx hfrx hltx hsz); (try (have hszl := Nat.lt_of_succ_le hsz)); obtain ⟨hcl, hfr, hlt⟩ := h2) | (obtain ⟨hcl, hfr, hlt, hsz⟩ := after_call hb; (try simp only [World.size_alloc, World.size_setCell, World.size_drew] at hcl hfr hlt hsz)))
    go_ret
    exact ⟨rfl, by (repeat' (first | (with_reducible exact Below.refl _ _) | (with_reducible refine Below.alloc ?_ ?_ _) | (with_reducible refine Below.setCell ?_ ?_ _) | (with_reducible refine Below.drew ?_) | (with_reducible refine below_drewN ?_ _) | (with_reducible assumption) | (with_reducible refine below_after (by with_reducible assumption) ?_) | go_size))⟩
theorem l01Unit_no (a b c d : Int) (w : World) (hm : isMx a b c d = true) (hu : ¬ (detP (a, b) (c, d) = 1 ∨ detP (a, b) (c, d) = -1)) :
    Calls Try.prog 76 #[.agg #[.int .i64 a, .int .i64 b, .int .i64 c, .int .i64 d]] w fun e w' => e = .returned (.bool false) ∧ Below w.heap.size w w' := by
  obtain ⟨k0, k1⟩ := isMx_parts hm
  have H0 := Lib.hid k0
  have H1 := Lib.hid k1
  clear k0 k1
  have h1 : (detP (a, b) (c, d) == 1) = false := by simpa using fun h => hu (.inl h)
  have h2 : (detP (a, b) (c, d) == -1) = false := by simpa using fun h => hu (.inr h)
  clear hu
  go_enter Try.func76, Try.ntmps76
  go_wp2_with (go_at_call 133; refine (l01DetOf_any _ _ _ _ _ (isPt_bn1 H0.out) (isPt_bn2 H0.out) (isPt_bn1 H1.out) (isPt_bn2 H1.out)).mono ?_; rintro e wn ⟨rfl, hb⟩; first | (have h2 := after_call2 hb hcl hfr hlt (by ((repeat' (first | (with_reducible exact Below.refl _ _) | (with_reducible refine Below.alloc ?_ ?_ _) | (with_reducible refine Below.setCell ?_ ?_ _) | (with_reducible refine Below.drew ?_) | (with_reducible refine below_drewN ?_ _) | (with_reducible assumption) | (with_reducible refine below_after (by with_reducible assumption) ?_) | go_size)); done)); obtain ⟨hclx, hfrx, hltx, hsz⟩ := after_call hb; (try simp only [World.size_alloc, World.size_setCell, World.size_drew] at hclx hfrx hltx hsz); (try (have hszl := Nat.lt_of_succ_le hsz)); obtain ⟨hcl, hfr, hlt⟩ := h2) | (obtain ⟨hcl, hfr, hlt, hsz⟩ := after_call hb; (try simp only [World.size_alloc, World.size_setCell, World.size_drew] at hcl hfr hlt hsz)))
  go_ret
  exact ⟨rfl, by (repeat' (first | (with_reducible exact Below.refl _ _) | (with_reducible refine Below.alloc ?_ ?_ _) | (with_reducible refine Below.setCell ?_ ?_ _) | (with_reducible refine Below.drew ?_) | (with_reducible refine below_drewN ?_ _) | (with_reducible assumption) | (with_reducible refine below_after (by with_reducible assumption) ?_) | go_size))⟩
theorem l01Minus_any (a b c d : Int) (w : World) (hm : isMx a b c d = true) (hu : detP (a, b) (c, d) = 1 ∨ detP (a, b) (c, d) = -1) :
    Calls Try.prog 77 #[.agg #[.int .i64 a, .int .i64 b, .int .i64 c, .int .i64 d]] w fun e w' => e = .returned (.agg #[.int .i64 (detP (a, b) (c, d) * d), .int .i64 (-detP (a, b) (c, d) * b), .int .i64 (-detP (a, b) (c, d) * c), .int .i64 (detP (a, b) (c, d) * a)]) ∧ Below w.heap.size w w' := by
  obtain ⟨D, hD⟩ : ∃ D, detP (a, b) (c, d) = D := ⟨_, rfl⟩
  rw [hD] at hu ⊢
  have HD := Lib.hid hD
  obtain ⟨k0, k1⟩ := isMx_parts hm
  have ca := isPt_c1 k0
  have cb := isPt_c2 k0
  have cc := isPt_c1 k1
  have cd := isPt_c2 k1
  have H0 := Lib.hid k0
  have H1 := Lib.hid k1
  have u1 : -1 ≤ D := by rcases hu with h | h <;> omega
  have u2 : D ≤ 1 := by rcases hu with h | h <;> omega
  have m1 := mul_bd (A := 1) (B := 1000000) u1 u2 cd.1 cd.2
  have m2 := mul_bd (A := 1) (B := 1000000) (a := -D) (by omega) (by omega) cb.1 cb.2
  have m3 := mul_bd (A := 1) (B := 1000000) (a := -D) (by omega) (by omega) cc.1 cc.2
  have m4 := mul_bd (A := 1) (B := 1000000) u1 u2 ca.1 ca.2
  obtain ⟨m11, m12⟩ := m1
  obtain ⟨m21, m22⟩ := m2
  obtain ⟨m31, m32⟩ := m3
  obtain ⟨m41, m42⟩ := m4
  have HU := Lib.hid hu
  clear hD k0 k1 hu ca cb cc cd
  have HC : ∀ w, Calls Try.prog 133 #[.agg #[.int .i64 a, .int .i64 b, .int .i64 c, .int .i64 d]] w fun e w' => e = .returned (.int .i64 D) ∧ Below w.heap.size w w' := fun w => by
    have := l01DetOf_any a b c d w (isPt_bn1 H0.out) (isPt_bn2 H0.out) (isPt_bn1 H1.out) (isPt_bn2 H1.out)
    rw [HD.out] at this; exact this
  have HC2 := Lib.hid HC
  clear HC
  have hs20 : w.heap.size < w.heap.size + 1 + 1 := (by omega)
  go_enter Try.func77, Try.ntmps77
  go_wp2_with (go_at_call 133; refine (HC2.out _).mono ?_; rintro e wn ⟨rfl, hb⟩; first | (have h2 := after_call2 hb hcl hfr hlt (by ((repeat' (first | (with_reducible exact Below.refl _ _) | (with_reducible refine Below.alloc ?_ ?_ _) | (with_reducible refine Below.setCell ?_ ?_ _) | (with_reducible refine Below.drew ?_) | (with_reducible refine below_drewN ?_ _) | (with_reducible assumption) | (with_reducible refine below_after (by with_reducible assumption) ?_) | go_size)); done)); obtain ⟨hclx, hfrx, hltx, hsz⟩ := after_call hb; (try simp only [World.size_alloc, World.size_setCell, World.size_drew] at hclx hfrx hltx hsz); (try (have hszl := Nat.lt_of_succ_le hsz)); obtain ⟨hcl, hfr, hlt⟩ := h2) | (obtain ⟨hcl, hfr, hlt, hsz⟩ := after_call hb; (try simp only [World.size_alloc, World.size_setCell, World.size_drew] at hcl hfr hlt hsz)))
  refine bodyPost_ret (v := .agg #[.int .i64 (D * d), .int .i64 (-D * b), .int .i64 (-D * c), .int .i64 (D * a)]) (by simp (maxDischargeDepth := 8) [results, Try.results77, go_sem, *]) rfl ?_
  exact ⟨rfl, by (repeat' (first | (with_reducible exact Below.refl _ _) | (with_reducible refine Below.alloc ?_ ?_ _) | (with_reducible refine Below.setCell ?_ ?_ _) | (with_reducible refine Below.drew ?_) | (with_reducible refine below_drewN ?_ _) | (with_reducible assumption) | (with_reducible refine below_after (by with_reducible assumption) ?_) | go_size))⟩
theorem det_tn2 {a b c d : Int} (hm : isMx a b c d = true) : Tn (detP (a, b) (c, d)) := by
  obtain ⟨k0, k1⟩ := isMx_parts hm
  have := mul_bd (isPt_c1 k0).1 (isPt_c1 k0).2 (isPt_c2 k1).1 (isPt_c2 k1).2
  have := mul_bd (isPt_c2 k0).1 (isPt_c2 k0).2 (isPt_c1 k1).1 (isPt_c1 k1).2
  unfold Tn detP
  dsimp only
  omega
theorem impl_InverseMatrix_yes (a b c d : Int) (w : World) (hm : isMx a b c d = true) (hu : detP (a, b) (c, d) = 1 ∨ detP (a, b) (c, d) = -1) :
    Calls Try.prog 8 #[.agg #[.int .i64 a, .int .i64 b, .int .i64 c, .int .i64 d]] w fun e w' => e = .returned (.tuple #[.agg #[.int .i64 (detP (a, b) (c, d) * d), .int .i64 (-detP (a, b) (c, d) * b), .int .i64 (-detP (a, b) (c, d) * c), .int .i64 (detP (a, b) (c, d) * a)], .int .i64 0]) ∧ Below w.heap.size w w' := by
  obtain ⟨D, hD⟩ : ∃ D, detP (a, b) (c, d) = D := ⟨_, rfl⟩
  rw [hD] at hu ⊢
  have HD := Lib.hid hD
  obtain ⟨k0, k1⟩ := isMx_parts hm
  have ca := isPt_c1 k0
  have cb := isPt_c2 k0
  have cc := isPt_c1 k1
  have cd := isPt_c2 k1
  have H0 := Lib.hid k0
  have H1 := Lib.hid k1
  have u1 : -1 ≤ D := by rcases hu with h | h <;> omega
  have u2 : D ≤ 1 := by rcases hu with h | h <;> omega
  have m1 := mul_bd (A := 1) (B := 1000000) u1 u2 cd.1 cd.2
  have m2 := mul_bd (A := 1) (B := 1000000) (a := -D) (by omega) (by omega) cb.1 cb.2
  have m3 := mul_bd (A := 1) (B := 1000000) (a := -D) (by omega) (by omega) cc.1 cc.2
  have m4 := mul_bd (A := 1) (B := 1000000) u1 u2 ca.1 ca.2
  obtain ⟨m11, m12⟩ := m1
  obtain ⟨m21, m22⟩ := m2
  obtain ⟨m31, m32⟩ := m3
  obtain ⟨m41, m42⟩ := m4
  have HU := Lib.hid hu
  clear hD k0 k1 hu ca cb cc cd
  have HC : ∀ w, Calls Try.prog 73 #[.agg #[.int .i64 a, .int .i64 b], .agg #[.int .i64 c, .int .i64 d]] w fun e w' => e = .returned (.int .i64 D) ∧ Below w.heap.size w w' := fun w => by
    have := determinant_any a b c d w (isPt_bn1 H0.out) (isPt_bn2 H0.out) (isPt_bn1 H1.out) (isPt_bn2 H1.out)
    rw [HD.out] at this; exact this
  have HC2 := Lib.hid HC
  have HT : Hid (Tn D) := ⟨by omega, by omega⟩
  have hab : (absI D == 1) = true := by
    simp only [beq_iff_eq]
    have := HU.out
    unfold absI
    omega
  clear HC
  have hs20 : w.heap.size < w.heap.size + 1 + 1 := (by omega)
  go_enter Try.func8, Try.ntmps8
  go_wp2_with (first | (go_at_call 13; refine (impl_IsMatrix_any _ _ _ _ _).mono ?_; rintro e wn ⟨rfl, hb⟩; first | (have h2 := after_call2 hb hcl hfr hlt (by ((repeat' (first | (with_reducible exact Below.refl _ _) | (with_reducible refine Below.alloc ?_ ?_ _) | (with_reducible refine Below.setCell ?_ ?_ _) | (with_reducible refine Below.drew ?_) | (with_reducible refine below_drewN ?_ _) | (with_reducible assumption) | (with_reducible refine below_after (by with_reducible assumption) ?_) | go_size)); done)); obtain ⟨hclx, hfrx, hltx, hsz⟩ := after_call hb; (try simp only [World.size_alloc, World.size_setCell, World.size_drew] at hclx hfrx hltx hsz); (try (have hszl := Nat.lt_of_succ_le hsz)); obtain ⟨hcl, hfr, hlt⟩ := h2) | (obtain ⟨hcl, hfr, hlt, hsz⟩ := after_call hb; (try simp only [World.size_alloc, World.size_setCell, World.size_drew] at hcl hfr hlt hsz))) | (go_at_call 73; refine (HC2.out _).mono ?_; rintro e wn ⟨rfl, hb⟩; first | (have h2 := after_call2 hb hcl hfr hlt (by ((repeat' (first | (with_reducible exact Below.refl _ _) | (with_reducible refine Below.alloc ?_ ?_ _) | (with_reducible refine Below.setCell ?_ ?_ _) | (with_reducible refine Below.drew ?_) | (with_reducible refine below_drewN ?_ _) | (with_reducible assumption) | (with_reducible refine below_after (by with_reducible assumption) ?_) | go_size)); done)); obtain ⟨hclx, hfrx, hltx, hsz⟩ := after_call hb; (try simp only [World.size_alloc, World.size_setCell, World.size_drew] at hclx hfrx hltx hsz); (try (have hszl := Nat.lt_of_succ_le hsz)); obtain ⟨hcl, hfr, hlt⟩ := h2) | (obtain ⟨hcl, hfr, hlt, hsz⟩ := after_call hb; (try simp only [World.size_alloc, World.size_setCell, World.size_drew] at hcl hfr hlt hsz))) | (go_at_call 74; refine (absolute_any _ _ HT.out).mono ?_; rintro e wn ⟨rfl, rfl⟩))
  refine bodyPost_ret (v := .tuple #[.agg #[.int .i64 (D * d), .int .i64 (-D * b), .int .i64 (-D * c), .int .i64 (D * a)], .int .i64 0]) (by simp (maxDischargeDepth := 8) [results, Try.results8, go_sem, *]) rfl ?_
  exact ⟨rfl, by (repeat' (first | (with_reducible exact Below.refl _ _) | (with_reducible refine Below.alloc ?_ ?_ _) | (with_reducible refine Below.setCell ?_ ?_ _) | (with_reducible refine Below.drew ?_) | (with_reducible refine below_drewN ?_ _) | (with_reducible assumption) | (with_reducible refine below_after (by with_reducible assumption) ?_) | go_size))⟩
end Go.Proofs.Ytoenlpkphekbnaa
