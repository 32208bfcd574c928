/-
  Products of squares and matrices of steps, in the model (own work).
-/
import Derived.Test.YtbgifgfegndlkaaTrG
namespace Go.Proofs.Ytbgifgfegndlkaa
open Go.ChangeShapes Go.WideShapes Go.ChangeAt Go.RowKit
set_option linter.unusedVariables false
set_option linter.unusedSimpArgs false
set_option maxRecDepth 100000

/-- The sum of the first k products for a place of a product. -/
def ps (m n : Nat → Int) (i j : Nat) : Nat → Int
  | 0 => 0
  | k + 1 => ps m n i j k + m (i * 3 + k) * n (k * 3 + j)
def prd (m n : Nat → Int) (c : Nat) : Int := ps m n (c / 3) (c % 3) 3
def dnF (P : Nat → Int) (n : Nat) (c : Nat) : Int := if c < n then P c else 0
theorem ps_bd {m n : Nat → Int} (hm : ∀ c, c < 9 → 0 ≤ m c ∧ m c ≤ 1000000) (hn : ∀ c, c < 9 → 0 ≤ n c ∧ n c ≤ 1000000) {i j : Nat} (hi : i < 3) (hj : j < 3) : ∀ k, k ≤ 3 → 0 ≤ ps m n i j k ∧ ps m n i j k ≤ 1000000000000 * (k : Int)
  | 0, _ => by simp [ps]
  | k + 1, hk => by
    have ih := ps_bd hm hn hi hj k (by omega)
    obtain ⟨a0, a1⟩ := hm (i * 3 + k) (by omega)
    obtain ⟨b0, b1⟩ := hn (k * 3 + j) (by omega)
    have p0 := Int.mul_nonneg a0 b0
    have p1 : m (i * 3 + k) * n (k * 3 + j) ≤ 1000000 * 1000000 := Int.mul_le_mul a1 b1 b0 (by omega)
    rw [ps]
    omega
theorem prd_at {m n : Nat → Int} {i j : Nat} (hj : j < 3) : prd m n (i * 3 + j) = ps m n i j 3 := by
  unfold prd
  rw [show (i * 3 + j) / 3 = i from by omega, show (i * 3 + j) % 3 = j from by omega]
set_option maxHeartbeats 6400000 in
theorem l07Times_any (m0 m1 m2 m3 m4 m5 m6 m7 m8 n0 n1 n2 n3 n4 n5 n6 n7 n8 : Int) (w : World) (hm : ∀ c, c < 9 → 0 ≤ nine m0 m1 m2 m3 m4 m5 m6 m7 m8 c ∧ nine m0 m1 m2 m3 m4 m5 m6 m7 m8 c ≤ 1000000) (hn : ∀ c, c < 9 → 0 ≤ nine n0 n1 n2 n3 n4 n5 n6 n7 n8 c ∧ nine n0 n1 n2 n3 n4 n5 n6 n7 n8 c ≤ 1000000) : Calls Try.prog 69 #[.agg #[.int .i64 m0, .int .i64 m1, .int .i64 m2, .int .i64 m3, .int .i64 m4, .int .i64 m5, .int .i64 m6, .int .i64 m7, .int .i64 m8], .agg #[.int .i64 n0, .int .i64 n1, .int .i64 n2, .int .i64 n3, .int .i64 n4, .int .i64 n5, .int .i64 n6, .int .i64 n7, .int .i64 n8]] w fun e w' => e = .returned (ag9 (prd (nine m0 m1 m2 m3 m4 m5 m6 m7 m8) (nine n0 n1 n2 n3 n4 n5 n6 n7 n8))) ∧ Below w.heap.size w w' := by
  have HMB := Lib.hid hm
  have HNB := Lib.hid hn
  obtain ⟨E, hE⟩ : ∃ E, ag9 (prd (nine m0 m1 m2 m3 m4 m5 m6 m7 m8) (nine n0 n1 n2 n3 n4 n5 n6 n7 n8)) = E := ⟨_, rfl⟩
  rw [hE]
  have HRES : Hid (E = ag9 (prd (nine m0 m1 m2 m3 m4 m5 m6 m7 m8) (nine n0 n1 n2 n3 n4 n5 n6 n7 n8))) := hE.symm
  clear hE hm hn
  obtain ⟨GM, hG⟩ : ∃ G, w.heap.size = G := ⟨_, rfl⟩
  have HG := Lib.hid hG
  go_enter Try.func69, Try.ntmps69
  go_upto_region 1 with fail
  obtain ⟨w0, hw0⟩ : ∃ w0, w0 = (((w.alloc (.cells #[.int .i64 m0, .int .i64 m1, .int .i64 m2, .int .i64 m3, .int .i64 m4, .int .i64 m5, .int .i64 m6, .int .i64 m7, .int .i64 m8] 43)).alloc (.cells #[.int .i64 n0, .int .i64 n1, .int .i64 n2, .int .i64 n3, .int .i64 n4, .int .i64 n5, .int .i64 n6, .int .i64 n7, .int .i64 n8] 43)).alloc (.cells #[.int .i64 0, .int .i64 0, .int .i64 0, .int .i64 0, .int .i64 0, .int .i64 0, .int .i64 0, .int .i64 0, .int .i64 0] 43)) := ⟨_, rfl⟩
  rw [← hw0]
  have HM : Hid (Bk9 w0 GM m0 m1 m2 m3 m4 m5 m6 m7 m8) := by
    have h := (bk9_new w m0 m1 m2 m3 m4 m5 m6 m7 m8 43).below (W' := (((w.alloc (.cells #[.int .i64 m0, .int .i64 m1, .int .i64 m2, .int .i64 m3, .int .i64 m4, .int .i64 m5, .int .i64 m6, .int .i64 m7, .int .i64 m8] 43)).alloc (.cells #[.int .i64 n0, .int .i64 n1, .int .i64 n2, .int .i64 n3, .int .i64 n4, .int .i64 n5, .int .i64 n6, .int .i64 n7, .int .i64 n8] 43)).alloc (.cells #[.int .i64 0, .int .i64 0, .int .i64 0, .int .i64 0, .int .i64 0, .int .i64 0, .int .i64 0, .int .i64 0, .int .i64 0] 43))) (by (repeat' (first | (with_reducible exact Below.refl _ _) | (with_reducible refine Below.alloc ?_ ?_ _) | (with_reducible refine Below.setCell ?_ ?_ _) | (with_reducible refine Below.drew ?_) | (with_reducible refine below_drewN ?_ _) | (with_reducible assumption) | (with_reducible refine below_after (by with_reducible assumption) ?_) | go_size)))
    (try simp only [World.size_alloc] at h)
    rw [hG] at h
    rw [hw0]; exact h
  have HN : Hid (Bk9 w0 (GM + 1) n0 n1 n2 n3 n4 n5 n6 n7 n8) := by
    have h := (bk9_new (w.alloc (.cells #[.int .i64 m0, .int .i64 m1, .int .i64 m2, .int .i64 m3, .int .i64 m4, .int .i64 m5, .int .i64 m6, .int .i64 m7, .int .i64 m8] 43)) n0 n1 n2 n3 n4 n5 n6 n7 n8 43).below (W' := (((w.alloc (.cells #[.int .i64 m0, .int .i64 m1, .int .i64 m2, .int .i64 m3, .int .i64 m4, .int .i64 m5, .int .i64 m6, .int .i64 m7, .int .i64 m8] 43)).alloc (.cells #[.int .i64 n0, .int .i64 n1, .int .i64 n2, .int .i64 n3, .int .i64 n4, .int .i64 n5, .int .i64 n6, .int .i64 n7, .int .i64 n8] 43)).alloc (.cells #[.int .i64 0, .int .i64 0, .int .i64 0, .int .i64 0, .int .i64 0, .int .i64 0, .int .i64 0, .int .i64 0, .int .i64 0] 43))) (by (repeat' (first | (with_reducible exact Below.refl _ _) | (with_reducible refine Below.alloc ?_ ?_ _) | (with_reducible refine Below.setCell ?_ ?_ _) | (with_reducible refine Below.drew ?_) | (with_reducible refine below_drewN ?_ _) | (with_reducible assumption) | (with_reducible refine below_after (by with_reducible assumption) ?_) | go_size)))
    (try simp only [World.size_alloc] at h)
    rw [hG] at h
    rw [hw0]; exact h
  have HR : Hid (Bk9 w0 (GM + 1 + 1) 0 0 0 0 0 0 0 0 0) := by
    have h := (bk9_new ((w.alloc (.cells #[.int .i64 m0, .int .i64 m1, .int .i64 m2, .int .i64 m3, .int .i64 m4, .int .i64 m5, .int .i64 m6, .int .i64 m7, .int .i64 m8] 43)).alloc (.cells #[.int .i64 n0, .int .i64 n1, .int .i64 n2, .int .i64 n3, .int .i64 n4, .int .i64 n5, .int .i64 n6, .int .i64 n7, .int .i64 n8] 43)) 0 0 0 0 0 0 0 0 0 43).below (W' := (((w.alloc (.cells #[.int .i64 m0, .int .i64 m1, .int .i64 m2, .int .i64 m3, .int .i64 m4, .int .i64 m5, .int .i64 m6, .int .i64 m7, .int .i64 m8] 43)).alloc (.cells #[.int .i64 n0, .int .i64 n1, .int .i64 n2, .int .i64 n3, .int .i64 n4, .int .i64 n5, .int .i64 n6, .int .i64 n7, .int .i64 n8] 43)).alloc (.cells #[.int .i64 0, .int .i64 0, .int .i64 0, .int .i64 0, .int .i64 0, .int .i64 0, .int .i64 0, .int .i64 0, .int .i64 0] 43))) (by (repeat' (first | (with_reducible exact Below.refl _ _) | (with_reducible refine Below.alloc ?_ ?_ _) | (with_reducible refine Below.setCell ?_ ?_ _) | (with_reducible refine Below.drew ?_) | (with_reducible refine below_drewN ?_ _) | (with_reducible assumption) | (with_reducible refine below_after (by with_reducible assumption) ?_) | go_size)))
    (try simp only [World.size_alloc] at h)
    rw [hG] at h
    rw [hw0]; exact h
  have HB : Hid (Below w.heap.size w w0) := by show Below w.heap.size w w0; rw [hw0]; (repeat' (first | (with_reducible exact Below.refl _ _) | (with_reducible refine Below.alloc ?_ ?_ _) | (with_reducible refine Below.setCell ?_ ?_ _) | (with_reducible refine Below.drew ?_) | (with_reducible refine below_drewN ?_ _) | (with_reducible assumption) | (with_reducible refine below_after (by with_reducible assumption) ?_) | go_size))
  clear hw0
  obtain ⟨GR, hGR⟩ : ∃ g, GM + 1 + 1 = g := ⟨_, rfl⟩
  rw [hGR] at HR ⊢
  obtain ⟨GN, hGN⟩ : ∃ g, GM + 1 = g := ⟨_, rfl⟩
  rw [hGN] at HN ⊢
  have le_M : w.heap.size ≤ GM := by omega
  have le_N : w.heap.size ≤ GN := by omega
  have ne_N_M : GN ≠ GM := by omega
  have ne_M_N : GM ≠ GN := by omega
  have le_R : w.heap.size ≤ GR := by omega
  have ne_R_M : GR ≠ GM := by omega
  have ne_M_R : GM ≠ GR := by omega
  have ne_R_N : GR ≠ GN := by omega
  have ne_N_R : GN ≠ GR := by omega
  clear hGN hGR
  obtain ⟨⟨qM0, qM1, qM2, qM3, qM4, qM5, qM6, qM7, qM8⟩, ⟨fM0, fM1, fM2, fM3, fM4, fM5, fM6, fM7, fM8⟩, zM⟩ := HM.out
  obtain ⟨⟨qN0, qN1, qN2, qN3, qN4, qN5, qN6, qN7, qN8⟩, ⟨fN0, fN1, fN2, fN3, fN4, fN5, fN6, fN7, fN8⟩, zN⟩ := HN.out
  obtain ⟨⟨qR0, qR1, qR2, qR3, qR4, qR5, qR6, qR7, qR8⟩, ⟨fR0, fR1, fR2, fR3, fR4, fR5, fR6, fR7, fR8⟩, zR⟩ := HR.out
  go_upto_region 2 with fail
  obtain ⟨GQ, hGQ⟩ : ∃ g, w0.heap.size = g := ⟨_, rfl⟩
  obtain ⟨w1, hw1⟩ : ∃ wx, wx = w0.alloc (.cells #[.int .i64 0, .int .i64 0, .int .i64 0, .int .i64 0, .int .i64 0, .int .i64 0, .int .i64 0, .int .i64 0, .int .i64 0] 43) := ⟨_, rfl⟩
  rw [← hw1, hGQ]
  have HQ : Hid (Bk9 w1 GQ 0 0 0 0 0 0 0 0 0) := by rw [hw1, ← hGQ]; exact bk9_new w0 0 0 0 0 0 0 0 0 0 _
  have le_Q : w.heap.size ≤ GQ := by rw [← hGQ]; exact HB.out.size
  have ne_Q_M : GQ ≠ GM := by have := HM.out.2.2; omega
  have ne_M_Q : GM ≠ GQ := Ne.symm ne_Q_M
  have ne_Q_N : GQ ≠ GN := by have := HN.out.2.2; omega
  have ne_N_Q : GN ≠ GQ := Ne.symm ne_Q_N
  have ne_Q_R : GQ ≠ GR := by have := HR.out.2.2; omega
  have ne_R_Q : GR ≠ GQ := Ne.symm ne_Q_R
  clear qM0 fM0 qM1 fM1 qM2 fM2 qM3 fM3 qM4 fM4 qM5 fM5 qM6 fM6 qM7 fM7 qM8 fM8 zM qN0 fN0 qN1 fN1 qN2 fN2 qN3 fN3 qN4 fN4 qN5 fN5 qN6 fN6 qN7 fN7 qN8 fN8 zN qR0 fR0 qR1 fR1 qR2 fR2 qR3 fR3 qR4 fR4 qR5 fR5 qR6 fR6 qR7 fR7 qR8 fR8 zR
  have HM := Lib.hid (HM.out.below ((Below.refl _ _).alloc (Nat.le_refl _) (.cells #[.int .i64 0, .int .i64 0, .int .i64 0, .int .i64 0, .int .i64 0, .int .i64 0, .int .i64 0, .int .i64 0, .int .i64 0] 43)))
  have HN := Lib.hid (HN.out.below ((Below.refl _ _).alloc (Nat.le_refl _) (.cells #[.int .i64 0, .int .i64 0, .int .i64 0, .int .i64 0, .int .i64 0, .int .i64 0, .int .i64 0, .int .i64 0, .int .i64 0] 43)))
  have HR := Lib.hid (HR.out.below ((Below.refl _ _).alloc (Nat.le_refl _) (.cells #[.int .i64 0, .int .i64 0, .int .i64 0, .int .i64 0, .int .i64 0, .int .i64 0, .int .i64 0, .int .i64 0, .int .i64 0] 43)))
  have HB := Lib.hid (Below.alloc HB.out HB.out.size (.cells #[.int .i64 0, .int .i64 0, .int .i64 0, .int .i64 0, .int .i64 0, .int .i64 0, .int .i64 0, .int .i64 0, .int .i64 0] 43))
  rw [← hw1] at HM HN HR HB
  clear hw1 hGQ
  obtain ⟨⟨qM0, qM1, qM2, qM3, qM4, qM5, qM6, qM7, qM8⟩, ⟨fM0, fM1, fM2, fM3, fM4, fM5, fM6, fM7, fM8⟩, zM⟩ := HM.out
  obtain ⟨⟨qN0, qN1, qN2, qN3, qN4, qN5, qN6, qN7, qN8⟩, ⟨fN0, fN1, fN2, fN3, fN4, fN5, fN6, fN7, fN8⟩, zN⟩ := HN.out
  obtain ⟨⟨qR0, qR1, qR2, qR3, qR4, qR5, qR6, qR7, qR8⟩, ⟨fR0, fR1, fR2, fR3, fR4, fR5, fR6, fR7, fR8⟩, zR⟩ := HR.out
  obtain ⟨⟨qQ0, qQ1, qQ2, qQ3, qQ4, qQ5, qQ6, qQ7, qQ8⟩, ⟨fQ0, fQ1, fQ2, fQ3, fQ4, fQ5, fQ6, fQ7, fQ8⟩, zQ⟩ := HQ.out
  go_wp2_with fail
  clear qM0 fM0 qM1 fM1 qM2 fM2 qM3 fM3 qM4 fM4 qM5 fM5 qM6 fM6 qM7 fM7 qM8 fM8 zM qN0 fN0 qN1 fN1 qN2 fN2 qN3 fN3 qN4 fN4 qN5 fN5 qN6 fN6 qN7 fN7 qN8 fN8 zN qR0 fR0 qR1 fR1 qR2 fR2 qR3 fR3 qR4 fR4 qR5 fR5 qR6 fR6 qR7 fR7 qR8 fR8 zR qQ0 fQ0 qQ1 fQ1 qQ2 fQ2 qQ3 fQ3 qQ4 fQ4 qQ5 fQ5 qQ6 fQ6 qQ7 fQ7 qQ8 fQ8 zQ
  have HM := Lib.hid HM.out.toF
  have HN := Lib.hid HN.out.toF
  have HQ := Lib.hid HQ.out.toF
  obtain ⟨m, hm⟩ : ∃ m, nine m0 m1 m2 m3 m4 m5 m6 m7 m8 = m := ⟨_, rfl⟩
  obtain ⟨n, hn⟩ : ∃ n, nine n0 n1 n2 n3 n4 n5 n6 n7 n8 = n := ⟨_, rfl⟩
  rw [hm] at HM HMB HRES
  rw [hn] at HN HNB HRES
  clear hm hn
  have HNE := Lib.hid (And.intro ne_M_Q (And.intro ne_N_Q (And.intro ne_R_Q (And.intro ne_Q_R (And.intro le_Q le_R)))))
  go_loopw [6] (fun y wr => ∃ i : Nat, y = .int .i64 (i : Int) ∧ i ≤ 3 ∧ BkF wr GQ (dnF (prd m n) (i * 3)) ∧ BkF wr GM m ∧ BkF wr GN n ∧ Bk9 wr GR 0 0 0 0 0 0 0 0 0 ∧ Below w.heap.size w wr) (fun y _ => 3 - (intOf y).toNat)
  case atStart => exact ⟨0, rfl, by omega, HQ.out.congr (fun c hc => by match c, hc with
    | 0, _ => rfl
    | 1, _ => rfl
    | 2, _ => rfl
    | 3, _ => rfl
    | 4, _ => rfl
    | 5, _ => rfl
    | 6, _ => rfl
    | 7, _ => rfl
    | 8, _ => rfl), HM.out, HN.out, HR.out, HB.out⟩
  case round =>
    obtain ⟨i, rfl, hi, hQ, hM, hN, hR, hbel⟩ := hrel
    clear HQ HM HN HR HB
    have HQ := Lib.hid hQ
    have HM := Lib.hid hM
    have HN := Lib.hid hN
    have HR := Lib.hid hR
    have HB := Lib.hid hbel
    clear hQ hM hN hR hbel
    by_cases hi3 : i < 3
    · have hk0 : decide ((i : Int) < 3) = true := by simp; omega
      go_wp2_with fail
      (try rw [hk0])
      go_loopw [7] (fun y wr => ∃ j : Nat, y = .int .i64 (j : Int) ∧ j ≤ 3 ∧ BkF wr GQ (dnF (prd m n) (i * 3 + j)) ∧ BkF wr GM m ∧ BkF wr GN n ∧ Bk9 wr GR 0 0 0 0 0 0 0 0 0 ∧ Below w.heap.size w wr) (fun y _ => 3 - (intOf y).toNat)
      case atStart => exact ⟨0, rfl, by omega, HQ.out, HM.out, HN.out, HR.out, HB.out⟩
      case round =>
        obtain ⟨j, rfl, hj, hQ, hM, hN, hR, hbel⟩ := hrel
        clear HQ HM HN HR HB
        have HQ := Lib.hid hQ
        have HM := Lib.hid hM
        have HN := Lib.hid hN
        have HR := Lib.hid hR
        have HB := Lib.hid hbel
        clear hQ hM hN hR hbel
        by_cases hj3 : j < 3
        · have hk1 : decide ((j : Int) < 3) = true := by simp; omega
          go_wp2_with fail
          (try rw [hk1])
          go_loopw [8] (fun y wr => ∃ k : Nat, y = .int .i64 (k : Int) ∧ k ≤ 3 ∧ BkF wr GQ (fun c => if c = i * 3 + j then ps m n i j k else dnF (prd m n) (i * 3 + j) c) ∧ BkF wr GM m ∧ BkF wr GN n ∧ Bk9 wr GR 0 0 0 0 0 0 0 0 0 ∧ Below w.heap.size w wr) (fun y _ => 3 - (intOf y).toNat)
          case atStart =>
            refine ⟨0, rfl, by omega, HQ.out.congr (fun c hc => ?_), HM.out, HN.out, HR.out, HB.out⟩
            (try dsimp only)
            by_cases e : c = i * 3 + j
            · rw [if_pos e, e]; unfold dnF; rw [if_neg (by omega)]; rfl
            · rw [if_neg e]
          case round =>
            obtain ⟨k, rfl, hk, hQ, hM, hN, hR, hbel⟩ := hrel
            clear HQ HM HN HR HB
            have HQ := Lib.hid hQ
            have HM := Lib.hid hM
            have HN := Lib.hid hN
            have HR := Lib.hid hR
            have HB := Lib.hid hbel
            clear hQ hM hN hR hbel
            by_cases hk3 : k < 3
            · have c0 := HQ.out.1 (i * 3 + j) (by omega)
              have c1 := HM.out.1 (i * 3 + k) (by omega)
              have c2 := HN.out.1 (k * 3 + j) (by omega)
              have fz := HQ.out.2.1 (i * 3 + j) (by omega)
              have hz := HQ.out.2.2
              simp only [if_true] at c0
              have b0 := ps_bd HMB.out HNB.out hi3 hj3 k (by omega)
              have b1 := HMB.out (i * 3 + k) (by omega)
              have b2 := HNB.out (k * 3 + j) (by omega)
              have HPS : Hid (ps m n i j (k + 1) = ps m n i j k + m (i * 3 + k) * n (k * 3 + j)) := by show _ = _; rfl
              obtain ⟨S, hS⟩ : ∃ S, ps m n i j k = S := ⟨_, rfl⟩
              obtain ⟨X, hX⟩ : ∃ X, m (i * 3 + k) = X := ⟨_, rfl⟩
              obtain ⟨Y, hY⟩ : ∃ Y, n (k * 3 + j) = Y := ⟨_, rfl⟩
              rw [hS] at c0 b0 HPS
              rw [hX] at c1 b1 HPS
              rw [hY] at c2 b2 HPS
              have p0 := Int.mul_nonneg b1.1 b2.1
              have p1 : X * Y ≤ 1000000 * 1000000 := Int.mul_le_mul b1.2 b2.2 b2.1 (by omega)
              obtain ⟨s0, s1⟩ := b0
              have s2 : S ≤ 3000000000000 := by omega
              have w1 : IntKind.i64.wrap (X * Y) = X * Y := by rw [IntKind.wrap_i64]; omega
              have w2 : IntKind.i64.wrap (S + X * Y) = S + X * Y := by rw [IntKind.wrap_i64]; omega
              have i0 : (0 : Int) ≤ (i : Int) := by omega
              have i1 : (i : Int) < 3 := by omega
              have j0 : (0 : Int) ≤ (j : Int) := by omega
              have j1 : (j : Int) < 3 := by omega
              have k0 : (0 : Int) ≤ (k : Int) := by omega
              have k1 : (k : Int) < 3 := by omega
              clear hS hX hY b1 b2 s1
              go_upto_region 11 with fail
              go_still_tail 21, (by kernel_rfl)
              change wpList _ _ _ _ _ (World.drew _)
              obtain ⟨w2, hw2⟩ : ∃ wx, wr.drew = wx := ⟨_, rfl⟩
              rw [hw2]
              have HQ2 : Hid (BkF w2 GQ (fun c => if c = i * 3 + j then ps m n i j k else dnF (prd m n) (i * 3 + j) c)) := by show BkF _ _ _; rw [← hw2]; exact HQ.out
              have HM2 : Hid (BkF w2 GM m) := by show BkF _ _ _; rw [← hw2]; exact HM.out
              have HN2 : Hid (BkF w2 GN n) := by show BkF _ _ _; rw [← hw2]; exact HN.out
              have HR2 := Lib.hid (HR.out.below (Below.drew (Below.refl _ _)))
              have HB2 := Lib.hid (Below.drew HB.out)
              rw [hw2] at HR2 HB2
              have fz2 : w2.frozen? ⟨GQ, i * 3 + j, none⟩ = false := by rw [← hw2]; exact fz
              have cz2 : w2.cell? ⟨GQ, i * 3 + j, none⟩ = some (.int .i64 S) := by rw [← hw2]; exact c0
              have hz2 : GQ < w2.heap.size := HQ2.out.2.2
              clear hw2 c0 c1 c2 fz hz HQ HM HN HR HB
              obtain ⟨ne_M_Q, ne_N_Q, ne_R_Q, ne_Q_R, le_Q, le_R⟩ := HNE.out
              go_wp2_with fail
              go_roundw
              case rel =>
                refine ⟨k + 1, by go_num, by omega, (HQ2.out.set (i * 3 + j) (by omega) (S + X * Y)).congr (fun c hc => ?_), HM2.out.far ⟨GQ, _, none⟩ _ (by show GM ≠ GQ; exact ne_M_Q), HN2.out.far ⟨GQ, _, none⟩ _ (by show GN ≠ GQ; exact ne_N_Q), HR2.out.far ⟨GQ, _, none⟩ _ (by show GR ≠ GQ; exact ne_R_Q), Below.setCell HB2.out (by exact le_Q) _⟩
                (try dsimp only)
                by_cases e : c = i * 3 + j
                · rw [if_pos e, if_pos e, HPS.out]
                · rw [if_neg e, if_neg e, if_neg e]
              case measure =>
                show 3 - ((k : Int) + 1).toNat < 3 - ((k : Int)).toNat
                omega
            · have e3 : k = 3 := by omega
              subst e3
              rw [show ((3 : Nat) : Int) = 3 from rfl]
              go_wp2_with fail
              go_roundw
              case rel =>
                refine ⟨j + 1, by go_num, by omega, HQ.out.congr (fun c hc => ?_), HM.out, HN.out, HR.out, HB.out⟩
                (try dsimp only)
                by_cases e : c = i * 3 + j
                · rw [if_pos e, e]; unfold dnF; rw [if_pos (by omega), prd_at hj3]
                · rw [if_neg e]; unfold dnF
                  by_cases e2 : c < i * 3 + j
                  · rw [if_pos e2, if_pos (by omega)]
                  · rw [if_neg e2, if_neg (by omega)]
              case measure =>
                show 3 - ((j : Int) + 1).toNat < 3 - ((j : Int)).toNat
                omega
        · have e3 : j = 3 := by omega
          subst e3
          rw [show ((3 : Nat) : Int) = 3 from rfl]
          go_wp2_with fail
          go_roundw
          case rel => exact ⟨i + 1, by go_num, by omega, HQ.out.congr (fun c hc => by rw [show (i + 1) * 3 = i * 3 + 3 from by omega]), HM.out, HN.out, HR.out, HB.out⟩
          case measure =>
            show 3 - ((i : Int) + 1).toNat < 3 - ((i : Int)).toNat
            omega
    · have e3 : i = 3 := by omega
      subst e3
      rw [show ((3 : Nat) : Int) = 3 from rfl]
      have HQ9 := Lib.hid (HQ.out.congr (f' := prd m n) (fun c hc => by unfold dnF; rw [if_pos (by omega)])).to9
      obtain ⟨ne_M_Q, ne_N_Q, ne_R_Q, ne_Q_R, le_Q, le_R⟩ := HNE.out
      obtain ⟨P0, hP0⟩ : ∃ P, prd m n = P := ⟨_, rfl⟩
      rw [hP0] at HQ9 HRES
      obtain ⟨⟨q0, q1, q2, q3, q4, q5, q6, q7, q8⟩, _, zQ⟩ := HQ9.out
      obtain ⟨_, ⟨f0, f1, f2, f3, f4, f5, f6, f7, f8⟩, zR⟩ := HR.out
      clear HM HN HQ HMB HNB hP0
      go_wp2_with fail
      refine bodyPost_ret (v := .agg #[.int .i64 (P0 0), .int .i64 (P0 1), .int .i64 (P0 2), .int .i64 (P0 3), .int .i64 (P0 4), .int .i64 (P0 5), .int .i64 (P0 6), .int .i64 (P0 7), .int .i64 (P0 8)]) (by simp (maxDischargeDepth := 8) [results, Try.results69, go_sem, *]) rfl ?_
      have hb := HB.out
      exact ⟨by rw [HRES.out]; rfl, by (repeat' (first | (with_reducible exact Below.refl _ _) | (with_reducible refine Below.alloc ?_ ?_ _) | (with_reducible refine Below.setCell ?_ ?_ _) | (with_reducible refine Below.drew ?_) | (with_reducible refine below_drewN ?_ _) | (with_reducible assumption) | (with_reducible refine below_after (by with_reducible assumption) ?_) | go_size))⟩
end Go.Proofs.Ytbgifgfegndlkaa
