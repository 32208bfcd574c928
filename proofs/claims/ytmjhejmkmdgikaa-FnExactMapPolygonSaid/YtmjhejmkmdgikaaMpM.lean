/-
  Images of polygons under unimodular matrices: the corners in order, and the hull of the images (own work).
-/
import Derived.Test.YtmjhejmkmdgikaaPgOr
import Derived.Test.YtmjhejmkmdgikaaPgV
import Derived.Test.YtmjhejmkmdgikaaMat
namespace Go.Proofs.Ytmjhejmkmdgikaa
open Go.ChangeShapes Go.WideShapes Go.ChangeAt Go.RowKit
set_option linter.unusedVariables false
set_option maxRecDepth 100000
set_option linter.unusedSimpArgs false

def mpT (a b c d e f : Int) (p : Int × Int) : Int × Int := (a * p.1 + b * p.2 + e, c * p.1 + d * p.2 + f)
def mpI (a b c d e f : Int) (ps : List (Int × Int)) : List (Int × Int) := ps.map (mpT a b c d e f)
variable {a b c d e f : Int}
theorem mpI_len (ps : List (Int × Int)) : (mpI a b c d e f ps).length = ps.length := by simp [mpI]
theorem trn_mpT (p q r : Int × Int) : trn (mpT a b c d e f p) (mpT a b c d e f q) (mpT a b c d e f r) = (a * d - b * c) * trn p q r := by
  unfold trn dv sbv mpT
  grind
theorem mpI_at (ps : List (Int × Int)) {k : Nat} (hk : k < ps.length) : (mpI a b c d e f ps).getD k (0, 0) = mpT a b c d e f (ps.getD k (0, 0)) := by
  unfold mpI
  rw [List.getD_eq_getElem?_getD, List.getElem?_map, List.getD_eq_getElem?_getD, List.getElem?_eq_getElem hk]
  rfl
theorem pl_mpI {ps : List (Int × Int)} (h : 0 < ps.length) (k : Nat) : pl (mpI a b c d e f ps) k = mpT a b c d e f (pl ps k) := by
  unfold pl
  rw [mpI_len]
  exact mpI_at ps (Nat.mod_lt _ h)
theorem lf_trn (P : Nat → Int × Int) (i k : Nat) : lf P i k = trn (P i) (P (i + 1)) (P k) := rfl
theorem cvx_mp1 {ps : List (Int × Int)} (h : 0 < ps.length) (hd : a * d - b * c = 1) (hc : Cvx ps.length (pl ps)) : Cvx (mpI a b c d e f ps).length (pl (mpI a b c d e f ps)) := by
  rw [mpI_len]
  intro i k h1 h2
  rw [lf_trn, pl_mpI h, pl_mpI h, pl_mpI h, trn_mpT, hd, Int.one_mul]
  exact hc i k h1 h2
theorem pl_rev {L : List (Int × Int)} {i q : Nat} (h : 0 < L.length) (hi : i < L.length * q) : pl L.reverse i = pl L (L.length * q - 1 - i) := by
  have hm := Nat.mod_lt i h
  have hd := Nat.mod_add_div i L.length
  have hq : i / L.length + 1 ≤ q := by
    have := (Nat.div_lt_iff_lt_mul h).2 (by rw [Nat.mul_comm]; exact hi : i < q * L.length)
    omega
  obtain ⟨t, ht⟩ : ∃ t, q = i / L.length + 1 + t := ⟨q - (i / L.length + 1), by omega⟩
  have e0 : L.length * q = L.length * (i / L.length) + L.length + L.length * t := by rw [ht, Nat.mul_add, Nat.mul_add, Nat.mul_one]
  have e1 : L.length * q - 1 - i = (L.length - 1 - i % L.length) + L.length * t := by
    rw [e0]
    generalize L.length * (i / L.length) = A at *
    generalize L.length * t = B at *
    omega
  have e2 : (L.length * q - 1 - i) % L.length = L.length - 1 - i % L.length := by
    rw [e1, Nat.add_mul_mod_self_left]
    exact Nat.mod_eq_of_lt (by omega)
  show L.reverse.getD (i % L.reverse.length) (0, 0) = L.getD ((L.length * q - 1 - i) % L.length) (0, 0)
  rw [List.length_reverse, e2, List.getD_eq_getElem?_getD, List.getElem?_reverse hm, List.getD_eq_getElem?_getD]
theorem trn_flip (p q r : Int × Int) : trn p q r = - trn q p r := by unfold trn dv sbv; grind
theorem cvx_rev {L : List (Int × Int)} (h : 3 ≤ L.length) (hc : ∀ i k, i + 1 < k → k < i + L.length → lf (pl L) i k < 0) : Cvx L.reverse.length (pl L.reverse) := by
  rw [List.length_reverse]
  intro i k h1 h2
  obtain ⟨N, hN⟩ : ∃ N, N = L.length * (i + 3) := ⟨_, rfl⟩
  have hNi : i + L.length + 3 ≤ N := by
    rw [hN]
    have := Nat.mul_le_mul h (Nat.le_refl i)
    have e1 : L.length * (i + 3) = L.length * i + L.length * 3 := Nat.mul_add _ _ _
    omega
  have p0 := pl_rev (L := L) (i := i) (q := i + 3) (by omega) (by omega)
  have p1 := pl_rev (L := L) (i := i + 1) (q := i + 3) (by omega) (by omega)
  have p2 := pl_rev (L := L) (i := k) (q := i + 3) (by omega) (by omega)
  rw [← hN] at p0 p1 p2
  rw [lf_trn, p0, p1, p2, trn_flip]
  have hw := hc (N - 1 - (i + 1)) (N - 1 - k + L.length) (by omega) (by omega)
  have e1 : N - 1 - (i + 1) + 1 = N - 1 - i := by omega
  rw [lf_trn, e1] at hw
  have e2 : pl L (N - 1 - k + L.length) = pl L (N - 1 - k) := by unfold pl; rw [Nat.add_mod_right]
  rw [e2] at hw
  omega
theorem cvx_mp2 {ps : List (Int × Int)} (h : 3 ≤ ps.length) (hd : a * d - b * c = -1) (hc : Cvx ps.length (pl ps)) : Cvx (mpI a b c d e f ps).reverse.length (pl (mpI a b c d e f ps).reverse) := by
  refine cvx_rev (by rw [mpI_len]; exact h) fun i k h1 h2 => ?_
  rw [mpI_len] at h2
  have := hc i k h1 h2
  rw [lf_trn] at this
  rw [lf_trn, pl_mpI (by omega), pl_mpI (by omega), pl_mpI (by omega), trn_mpT, hd]
  omega
theorem lxlt_same {x y : Int × Int} (h1 : lxlt x y = false) (h2 : lxlt y x = false) : x = y := by
  obtain ⟨x0, x1⟩ := x
  obtain ⟨y0, y1⟩ := y
  have n1 : ¬ lxlt (x0, x1) (y0, y1) = true := by rw [h1]; decide
  have n2 : ¬ lxlt (y0, y1) (x0, x1) = true := by rw [h2]; decide
  rw [lxlt_iff] at n1 n2
  dsimp only at n1 n2
  have e0 : x0 = y0 := by omega
  have e1 : x1 = y1 := by omega
  rw [e0, e1]
theorem ixm_min (ps : List (Int × Int)) : ∀ k j, j < k → lxlt (ps.getD j (0, 0)) (ps.getD (ixm ps k) (0, 0)) = false
  | 0, j, h => by omega
  | k + 1, j, h => by
    rw [ixm_succ]
    cases hb : lxlt (ps.getD k (0, 0)) (ps.getD (ixm ps k) (0, 0)) with
    | true =>
      rw [if_pos rfl]
      by_cases hj : j = k
      · subst hj
        cases hx : lxlt (ps.getD j (0, 0)) (ps.getD j (0, 0)) with
        | false => rfl
        | true => rw [lxlt_iff] at hx; omega
      · have ih := ixm_min ps k j (by omega)
        cases hx : lxlt (ps.getD j (0, 0)) (ps.getD k (0, 0)) with
        | false => rfl
        | true =>
          exfalso
          have n1 : ¬ lxlt (ps.getD j (0, 0)) (ps.getD (ixm ps k) (0, 0)) = true := by rw [ih]; decide
          rw [lxlt_iff] at hb hx n1
          omega
    | false =>
      rw [if_neg (by decide)]
      by_cases hj : j = k
      · subst hj; exact hb
      · exact ixm_min ps k j (by omega)
theorem rotL_pl {Q : List (Int × Int)} {i : Nat} (hi : i < Q.length) : lst (fun k => pl Q (i + k)) Q.length = rotL Q i := by
  apply List.ext_getElem?
  intro k
  unfold lst rotL
  by_cases hk : k < Q.length
  · rw [List.getElem?_map, List.getElem?_range hk]
    by_cases h1 : k < Q.length - i
    · rw [List.getElem?_append_left (by rw [List.length_drop]; exact h1), List.getElem?_drop]
      show some (Q.getD ((i + k) % Q.length) (0, 0)) = _
      rw [Nat.mod_eq_of_lt (by omega), List.getD_eq_getElem?_getD, List.getElem?_eq_getElem (by omega)]
      rfl
    · rw [List.getElem?_append_right (by rw [List.length_drop]; omega), List.length_drop, List.getElem?_take_of_lt (by omega)]
      show some (Q.getD ((i + k) % Q.length) (0, 0)) = _
      have e : i + k = (k - (Q.length - i)) + Q.length := by omega
      rw [e, Nat.add_mod_right, Nat.mod_eq_of_lt (by omega), List.getD_eq_getElem?_getD, List.getElem?_eq_getElem (by omega)]
      rfl
  · rw [List.getElem?_eq_none (by simp; omega), List.getElem?_eq_none (by simp; omega)]
/-- The model's hull of points that are a polygon's corners is the polygon, from its least corner on. -/
theorem mp_hull {Q L : List (Int × Int)} (h3 : 3 ≤ Q.length) (hc : Cvx Q.length (pl Q)) (hmem : ∀ x, x ∈ L ↔ x ∈ Q) (hlen : L.length = Q.length) : hlM L = Q.length ∧ lst (hsq L (hF L)) (hlM L) = rotL Q (ixm Q Q.length) := by
  have hi := ixm_lt (ps := Q) (n := Q.length) (by omega) Q.length (Nat.le_refl _)
  have hmin : ∀ x, x ∈ Q → lxlt x (pl Q (ixm Q Q.length)) = false := by
    intro x hx
    obtain ⟨j, hj, rfl⟩ := mem_pl hx
    rw [pl_lt hi, pl_lt hj]
    exact ixm_min Q Q.length j hj
  have hf : hF L = pl Q (ixm Q Q.length) := by
    apply lxlt_same
    · exact hmin _ ((hmem _).1 (hF_in (by omega)))
    · exact hF_min L _ ((hmem _).2 (pl_mem (by omega) _))
  have hp := hull_pol h3 hc hmem hmin
  rw [← hf] at hp
  obtain ⟨c1, c2, c3, c4⟩ := clo_ok (hF L) (hsq L (hF L)) L.length 1
  have hM : hlM L = Q.length := by
    unfold hlM
    generalize clo (hF L) (hsq L (hF L)) L.length 1 = m at *
    have hn : hsq L (hF L) Q.length = hF L := by
      rw [hp, hf]
      unfold pl
      rw [Nat.add_mod_right]
    have u1 : m ≤ Q.length := by
      apply Classical.byContradiction
      intro hh
      exact c3 Q.length (by omega) (by omega) hn
    have u2 : Q.length ≤ m := by
      apply Classical.byContradiction
      intro hh
      have := c4 (by omega)
      rw [hp, hf] at this
      exact dup_no h3 (i := ixm Q Q.length) (j := ixm Q Q.length + m) (by omega) (by omega) this.symm hc
    omega
  refine ⟨hM, ?_⟩
  rw [hM, ← rotL_pl hi]
  unfold lst
  apply List.map_congr_left
  intro k hk
  exact hp k
theorem cvx_diff {Q : List (Int × Int)} (h3 : 3 ≤ Q.length) (hc : Cvx Q.length (pl Q)) : ∀ i j, i < j → j < Q.length → Q.getD j (0, 0) ≠ Q.getD i (0, 0) := by
  intro i j h1 h2 h
  rw [← pl_lt h2, ← pl_lt (by omega : i < Q.length)] at h
  exact dup_no h3 h1 (by omega) h.symm hc
theorem rotL_mem (Q : List (Int × Int)) (i : Nat) (x : Int × Int) : x ∈ rotL Q i ↔ x ∈ Q := by
  unfold rotL
  rw [List.mem_append]
  constructor
  · rintro (h | h)
    · exact List.mem_of_mem_drop h
    · exact List.mem_of_mem_take h
  · intro h
    have : x ∈ Q.take i ++ Q.drop i := by rw [List.take_append_drop]; exact h
    rcases List.mem_append.1 this with h | h
    · exact .inr h
    · exact .inl h
theorem inC_mem {P Q : List (Int × Int)} (h : ∀ x, x ∈ P ↔ x ∈ Q) : inC P = inC Q := by
  unfold inC
  rw [Bool.eq_iff_iff, List.all_eq_true, List.all_eq_true]
  exact ⟨fun k x hx => k x ((h x).2 hx), fun k x hx => k x ((h x).1 hx)⟩
/-- The corners that are put in order: the images, or the images from the last one on. -/
def mpQ (a b c d e f : Int) (ps : List (Int × Int)) : List (Int × Int) := if a * d - b * c < 0 then (mpI a b c d e f ps).reverse else mpI a b c d e f ps
def mpOk (a b c d e f : Int) (ps : List (Int × Int)) : Bool := isMx a b c d && (isP ps && isPt (e, f))
def mpU (a b c d : Int) : Bool := decide (a * d - b * c = 1) || decide (a * d - b * c = -1)
def mpC (a b c d e f : Int) (ps : List (Int × Int)) : Int := if mpOk a b c d e f ps = true then (if mpU a b c d = true then (if inC (mpI a b c d e f ps) = true then 0 else 3) else 5) else 1
def mpL (a b c d e f : Int) (ps : List (Int × Int)) : List (Int × Int) := if mpOk a b c d e f ps = true then (if mpU a b c d = true then (if inC (mpI a b c d e f ps) = true then rotL (mpQ a b c d e f ps) (ixm (mpQ a b c d e f ps) ps.length) else []) else []) else []
theorem mpQ_mem (a b c d e f : Int) (ps : List (Int × Int)) (x : Int × Int) : x ∈ mpQ a b c d e f ps ↔ x ∈ mpI a b c d e f ps := by
  unfold mpQ
  split
  · exact List.mem_reverse
  · exact Iff.rfl
theorem mpQ_len (a b c d e f : Int) (ps : List (Int × Int)) : (mpQ a b c d e f ps).length = ps.length := by
  unfold mpQ
  split
  · rw [List.length_reverse, mpI_len]
  · exact mpI_len ps
theorem mpQ_cvx {ps : List (Int × Int)} (hU : mpU a b c d = true) (hP : isP ps = true) : Cvx (mpQ a b c d e f ps).length (pl (mpQ a b c d e f ps)) := by
  obtain ⟨h3, _, _, hc⟩ := isP_iff.1 hP
  unfold mpU at hU
  simp only [Bool.or_eq_true, decide_eq_true_eq] at hU
  unfold mpQ
  rcases hU with h | h
  · rw [if_neg (by omega)]; exact cvx_mp1 (by omega) h hc
  · rw [if_pos (by omega)]; exact cvx_mp2 h3 h hc
theorem mpL_len (a b c d e f : Int) (ps : List (Int × Int)) : (mpL a b c d e f ps).length ≤ 12 := by
  unfold mpL
  split
  · next h =>
    simp only [mpOk, Bool.and_eq_true] at h
    obtain ⟨h3, h12, _, _⟩ := isP_iff.1 h.2.1
    split
    · split
      · have hi := ixm_lt (ps := mpQ a b c d e f ps) (n := ps.length) (by omega) ps.length (Nat.le_refl _)
        rw [rotL_len _ (by rw [mpQ_len]; omega), mpQ_len]
        exact h12
      · simp
    · simp
  · simp
end Go.Proofs.Ytmjhejmkmdgikaa
