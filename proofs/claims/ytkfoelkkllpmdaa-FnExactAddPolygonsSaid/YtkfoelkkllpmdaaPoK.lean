/-
  Mathematics for the sum of polygons (own work): a hull of points that are not on one line has three corners; the sums of corners are not on one line.
-/
import Derived.Test.YtkfoelkkllpmdaaPgR
namespace Go.Proofs.Ytkfoelkkllpmdaa
set_option linter.unusedVariables false
set_option maxRecDepth 100000
set_option linter.unusedSimpArgs false

theorem dv_line {d u v : Int × Int} (hd : d ≠ (0, 0)) (h1 : dv d u = 0) (h2 : dv d v = 0) : dv u v = 0 := by
  obtain ⟨d0, d1⟩ := d
  obtain ⟨u0, u1⟩ := u
  obtain ⟨v0, v1⟩ := v
  unfold dv at *
  simp only at *
  have e0 : d0 * (u0 * v1 - u1 * v0) = 0 := by
    have : d0 * (u0 * v1 - u1 * v0) = u0 * (d0 * v1 - d1 * v0) - v0 * (d0 * u1 - d1 * u0) := by grind
    rw [this, h1, h2]; simp
  have e1 : d1 * (u0 * v1 - u1 * v0) = 0 := by
    have : d1 * (u0 * v1 - u1 * v0) = u1 * (d0 * v1 - d1 * v0) - v1 * (d0 * u1 - d1 * u0) := by grind
    rw [this, h1, h2]; simp
  rcases Int.mul_eq_zero.1 e0 with h | h
  · rcases Int.mul_eq_zero.1 e1 with k | k
    · exact absurd (by rw [h, k]) hd
    · exact k
  · exact h
theorem dv_sub {d u v : Int × Int} (h1 : dv d u = 0) (h2 : dv d v = 0) : dv d (sbv u v) = 0 := by
  unfold dv sbv at *
  simp only at *
  grind
/-- Points on the line from f to g are on one line. -/
theorem trn_line {f g x y z : Int × Int} (hne : g ≠ f) (hx : trn f g x = 0) (hy : trn f g y = 0) (hz : trn f g z = 0) : trn x y z = 0 := by
  have hd : sbv g f ≠ (0, 0) := by
    intro h
    apply hne
    unfold sbv at h
    simp only [Prod.mk.injEq] at h
    exact Prod.ext (by omega) (by omega)
  have hxy : dv (sbv g f) (sbv y x) = 0 := by
    have := dv_sub hy hx
    have e : sbv (sbv y f) (sbv x f) = sbv y x := by unfold sbv; simp only [Prod.mk.injEq]; omega
    rwa [e] at this
  have hxz : dv (sbv g f) (sbv z x) = 0 := by
    have := dv_sub hz hx
    have e : sbv (sbv z f) (sbv x f) = sbv z x := by unfold sbv; simp only [Prod.mk.injEq]; omega
    rwa [e] at this
  exact dv_line hd hxy hxz
theorem trn_swap (f g c : Int × Int) : trn g f c = - trn f g c := by unfold trn dv sbv; grind
theorem hull_three {L : List (Int × Int)} {x y z : Int × Int} (hx : x ∈ L) (hy : y ∈ L) (hz : z ∈ L) (h : trn x y z ≠ 0) : 3 ≤ hlP L := by
  have h1 : 1 ≤ L.length := List.length_pos_of_mem hx
  have hf := hF_in h1
  have hm := hF_min L
  obtain ⟨a1, a2, a3, a4⟩ := clo_ok (hF L) (hsq L (hF L)) 12 1
  apply Classical.byContradiction
  intro hn
  have hlt : clo (hF L) (hsq L (hF L)) 12 1 < 3 := by unfold hlP at hn; omega
  have e := a4 (by omega)
  by_cases ho : ∃ x, x ∈ L ∧ x ≠ hF L
  · have n0 := (hsq_nxt hf hm ho 0).1
    have n1 := (hsq_nxt hf hm ho 1).1
    have hs0 : hsq L (hF L) 0 = hF L := rfl
    rw [hs0] at n0
    have hc : clo (hF L) (hsq L (hF L)) 12 1 = 1 ∨ clo (hF L) (hsq L (hF L)) 12 1 = 2 := by omega
    rcases hc with hc | hc
    · rw [hc] at e
      exact n0.2.1 e
    · rw [hc] at e
      rw [show (1 + 1 : Nat) = 2 from rfl, e] at n1
      have hall : ∀ c, c ∈ L → trn (hF L) (hsq L (hF L) (0 + 1)) c = 0 := fun c hc => by
        have p := (n0.2.2 c hc).1
        have q := (n1.2.2 c hc).1
        have s := trn_swap (hF L) (hsq L (hF L) 1) c
        have : trn (hF L) (hsq L (hF L) (0 + 1)) c = trn (hF L) (hsq L (hF L) 1) c := rfl
        omega
      exact h (trn_line n0.2.1 (hall x hx) (hall y hy) (hall z hz))
  · have hall : ∀ c, c ∈ L → c = hF L := fun c hc => Classical.byContradiction fun hne => ho ⟨c, hc, hne⟩
    apply h
    rw [hall x hx, hall y hy, hall z hz]
    exact trn_same _ _
def adv (a b : Int × Int) : Int × Int := (a.1 + b.1, a.2 + b.2)
/-- The sums, in the order of both readings. -/
def sums (P Q : List (Int × Int)) : List (Int × Int) := P.flatMap fun a => Q.map fun b => adv a b
theorem sums_mem {P Q : List (Int × Int)} {a b : Int × Int} (ha : a ∈ P) (hb : b ∈ Q) : adv a b ∈ sums P Q := by
  unfold sums
  exact List.mem_flatMap.2 ⟨a, ha, List.mem_map.2 ⟨b, hb, rfl⟩⟩
theorem trn_adv (a b c q : Int × Int) : trn (adv a q) (adv b q) (adv c q) = trn a b c := by unfold trn dv sbv adv; grind
/-- The sum of two polygons has three corners. -/
theorem sums_three {P Q : List (Int × Int)} (hP : isP P = true) (hQ : isP Q = true) : 3 ≤ hlP (sums P Q) := by
  obtain ⟨p3, _, _, pc⟩ := isP_iff.1 hP
  obtain ⟨q3, _, _, _⟩ := isP_iff.1 hQ
  have q0 := pl_mem (ps := Q) (by omega) 0
  refine hull_three (sums_mem (pl_mem (by omega) 0) q0) (sums_mem (pl_mem (by omega) 1) q0) (sums_mem (pl_mem (by omega) 2) q0) ?_
  rw [trn_adv]
  have := pc 0 2 (by omega) (by omega)
  have e : lf (pl P) 0 2 = trn (pl P 0) (pl P 1) (pl P 2) := rfl
  omega
theorem sums_len (P Q : List (Int × Int)) : (sums P Q).length = P.length * Q.length := by
  induction P with
  | nil => simp [sums]
  | cons a r ih =>
    have e : sums (a :: r) Q = (Q.map fun b => adv a b) ++ sums r Q := rfl
    rw [e, List.length_append, List.length_map, ih, List.length_cons, Nat.add_mul]
    omega
/-- All sums of corners are points. -/
theorem sums_pt {P Q : List (Int × Int)} (hP : inC P = true) (hQ : inC Q = true) : (sums P Q).all isPt = true := by
  rw [List.all_eq_true]
  intro c hc
  obtain ⟨a, ha, hm⟩ := List.mem_flatMap.1 hc
  obtain ⟨b, hb, rfl⟩ := List.mem_map.1 hm
  have pa := isS_iff.1 (List.all_eq_true.1 hP a ha)
  have pb := isS_iff.1 (List.all_eq_true.1 hQ b hb)
  unfold Sml at pa pb
  unfold isPt adv
  rw [Bool.and_eq_true]
  exact ⟨crd_iff.2 ⟨by simp only; omega, by simp only; omega⟩, crd_iff.2 ⟨by simp only; omega, by simp only; omega⟩⟩
end Go.Proofs.Ytkfoelkkllpmdaa
